/- The program's TurnRow, TurnColumn. -/
import Derived.Test.YtbppbkoppbnodaaIMt
import Derived.Test.YtbppbkoppbnodaaIMxT
import Derived.Test.YtbppbkoppbnodaaIFit
namespace Go.Proofs.Ytbppbkoppbnodaa
set_option maxRecDepth 100000
open Go.RowKit

theorem maRow_inB (m : List (List Int)) (i : Int) : inB i 0 ((mfN m : Nat) - 1 : Int) = maRow m i := by
  unfold maRow mfN
  cases h : maOk m with
  | true => simp
  | false =>
    rw [Bool.false_and]
    unfold inB
    simp
    omega
set_option maxRecDepth 100000 in
set_option maxHeartbeats 4000000 in
theorem iturnRow (v : Value) (m : List (List Int)) (i k : Int) (w : World) (hv : IR w v m) (hl : sz2 m ≤ 1048576) : Calls Try.prog 25 #[v, .int .i64 i, .int .i64 k] w (MakesRB w (trA m i k) (trOk m i k)) := by
  have HM := Lib.hid (fun w' (h : Below w.heap.size w w') => matrixFrom_any v m w' (hv.below h) hl)
  have hR := mf_MxR m
  have HH := Lib.hid (hasIndex_any (mfV m) (mfN m) i)
  rw [maRow_inB] at HH
  have ZZ := Lib.hid zeroMx
  have IC := Lib.hid (infoMxC (mfV m) (mfN m))
  have SC := Lib.hid (mxC_size (mfV m) (mfN m))
  have OC := Lib.hid (mxC_one (mfV m) (mfN m))
  obtain ⟨C, hC⟩ : ∃ C, C = mxC (mfV m) (mfN m) := ⟨_, rfl⟩
  obtain ⟨pa, cap, rfl⟩ := hv.slice
  have HPH := Lib.hid (isPhase_any k)
  clear hv
  cases hok : trOk m i k with
  | true =>
    have hok1 := hok
    unfold trOk at hok1
    rw [Bool.and_eq_true] at hok1
    rw [hok1.1] at HH
    rw [hok1.2] at HPH
    have hp := maRow_parts hok1.1
    have hm := hp.1
    have hk : 0 ≤ k ∧ k ≤ 3 := by simpa [inB] using hok1.2
    have hiv : ((i.toNat : Nat) : Int) = i := by omega
    have hx := isV_of k hk.1 hk.2
    have HVO := Lib.hid (valueOf_any k hk.1 hk.2)
    have HT := Lib.hid (rowTimes_any (mfV m) (mfN m) (atM m) hR i.toNat (by rw [mf_yes hm]; exact hp.2.2.1) _ k hx)
    rw [hiv] at HT
    have hLs := lists_any _ _ _ (pg1_MxR hR (i := i.toNat) (by rw [mf_yes hm]; exact hp.2.2.1) hx)
    have e : genR (mfN m) (fun a => gen (mfN m) (fun b => if a = i.toNat then (atM m a b + k) % 4 else atM m a b)) = trA m i k := by
      unfold trA
      rw [hok, if_pos rfl, mf_yes hm]
      unfold trM
      rw [← genR_self m, genR_set, genR_length]
      rw [genR_self]
      refine genR_ext (fun a ha => ?_)
      by_cases h : a = i.toNat
      · subst h
        rw [if_pos rfl]
        unfold turnG
        rw [maOk_sq hm _ ha]
        refine gen_ext (fun b _ => ?_)
        rw [if_pos rfl]
        rfl
      · rw [if_neg h]
        refine Eq.trans (gen_ext (fun b _ => if_neg h)) ?_
        have := gen_self (m.getD a [])
        rw [maOk_sq hm a ha] at this
        exact this
    rw [e, mf_ok, hm] at hLs
    have HLS := Lib.hid hLs
    obtain ⟨D, hD⟩ : ∃ C, C = mxC (pg1 i.toNat (mfN m) (fun c => mulB (mfV m c) (f32of (vx k), f32of (vy k))) (mfV m)) (mfN m) := ⟨_, rfl⟩
    unfold cxV at HT
    obtain ⟨x, hxx⟩ : ∃ x, x = f32of (vx k) := ⟨_, rfl⟩
    obtain ⟨y, hyy⟩ : ∃ x, x = f32of (vy k) := ⟨_, rfl⟩
    rw [← hC] at HM HT IC SC OC HH
    rw [← hD] at HT HLS
    rw [← hxx, ← hyy] at HVO HT
    clear hR hLs e hC hD hok hok1 hp hm hk hiv hx hxx hyy
    have B0 := Lib.hid (Below.refl w.heap.size w)
    go_enter Try.func25, Try.ntmps25
    go_wp2_with fail
    refine (HM.out _ B0.out).mono ?_
    rintro e w1 ⟨rfl, hb⟩
    have B1 := Lib.hid (joins B0.out hb)
    clear hb
    go_wp2_with (first
      | ((with_reducible refine at_op (d := some 8) (Op.alloc 41) ?_); refine wpList_alloc_row rfl 41 rfl (mxC V0 0) (fun w => ZZ.out w) ?_; intro w2 hr hb hz; have R2_c := Lib.hid hr; have B2 := Lib.hid (joins B1.out hb); have L2_c := Lib.hid (show w.heap.size ≤ w1.heap.size from B1.out.size); clear hr hb hz)
      | ((with_reducible refine at_op (Op.store 41 (.tmp 8) (.tmp 10)) ?_); refine wpList_put_row rfl 41 (.tmp 8) (.tmp 10) rfl (w1.heap.size) C rfl rfl 41 (mxC V0 0) R2_c.out 65 infoMx SC.out (mxC_size _ _) OC.out w.heap.size w B2.out L2_c.out ?_; intro w3 hr hs hb; have R3_c := Lib.hid hr; have B3 := Lib.hid hb; clear hr hs hb)
      | ((with_reducible refine at_op (Op.load 41 (.tmp 8)) ?_); refine wpList_load_part rfl 41 (.tmp 8) rfl (w1.heap.size) 0 rfl C C 41 (0, 0) _ R3_c.out (Part.self _) Try.underlying41 rfl IC.out ?_))
    refine (HH.out _).mono ?_
    rintro e w4 ⟨rfl, hb⟩
    have R4_c := Lib.hid (rowB R3_c.out hb)
    have B4 := Lib.hid (joins B3.out hb)
    clear hb
    go_wp2_with (go_at_call 53; refine (HPH.out _).mono ?_; rintro e w' ⟨rfl, rfl⟩)
    go_wp2_with fail
    refine wp_region_held_drew (S := (fun w' => World.grownBy w4 w' none)) (by kernel_rfl) (grownDrew (World.grownBy.refl _ _)) ?_
    obtain ⟨w5, hdw⟩ : ∃ w', w' = w4.drew := ⟨_, rfl⟩
    rw [← hdw]
    have hb : Below w4.heap.size w4 w5 := by rw [hdw]; exact belowN (Below.refl _ _) 1
    have R5_c := Lib.hid (rowB R4_c.out hb)
    have B5 := Lib.hid (joins B4.out hb)
    clear hdw hb
    intro hHeld
    refine' wpAnyH_take (i := 0) (v := _) rfl (by kernel_rfl) (by kernel_rfl) (by kernel_rfl) (fun _ _ _ h => h) (yieldsPart (by rfl) 41 (.tmp 8) rfl (w1.heap.size) 0 rfl C C 41 (0, 0) _ (fun w h => (rowG R4_c.out h (by simp))) (Part.self _) Try.underlying41 rfl IC.out) (by assumption) ?rest1
    (try simp only [Act.put, List.getElem_toArray, List.getElem_cons_zero, List.setIfInBounds_toArray, List.set_cons_zero, List.set_cons_succ])
    refine' wpAnyH_take (i := 1) (v := _) rfl (by kernel_rfl) (by kernel_rfl) (by kernel_rfl) (fun _ _ _ h => h) (Or.inl ⟨by rfl, ?hy2⟩) (by assumption) ?rest2
    case hy2 =>
      intro w h
      (try clear h)
      go_simp
      (try with_reducible rfl)
    (try simp only [Act.put, List.getElem_toArray, List.getElem_cons_zero, List.getElem_cons_succ, List.setIfInBounds_toArray, List.set_cons_zero, List.set_cons_succ])
    refine' wpAnyH_take (i := 2) (v := _) rfl (by kernel_rfl) (by kernel_rfl) (by kernel_rfl) (fun _ _ _ h => h) (Or.inl ⟨by rfl, ?hy3⟩) (by assumption) ?rest3
    case hy3 =>
      intro w h
      (try clear h)
      go_simp
      (try with_reducible rfl)
    (try simp only [Act.put, List.getElem_toArray, List.getElem_cons_zero, List.getElem_cons_succ, List.setIfInBounds_toArray, List.set_cons_zero, List.set_cons_succ])
    refine wpAnyH_ready (rs := [3]) (by kernel_rfl) (by simp) ?_
    refine AllReadyH.cons rfl (fun K hK => ?_) AllReadyH.nil
    go_simp
    refine (HVO.out _).mono ?_
    rintro e w6 ⟨rfl, hb⟩
    have R6_c := Lib.hid (rowB R5_c.out hb)
    have B6 := Lib.hid (joins B5.out hb)
    have hHeld := grownB hHeld hb
    clear hb
    refine hK.out _ _ hHeld (fun hHeld => ?_)
    clear hK K
    (try simp only [Act.put, List.getElem_toArray, List.getElem_cons_zero, List.getElem_cons_succ, List.setIfInBounds_toArray, List.set_cons_zero, List.set_cons_succ])
    refine wpAnyH_ready (rs := [4]) (by kernel_rfl) (by simp) ?_
    refine AllReadyH.cons rfl (fun K hK => ?_) AllReadyH.nil
    go_simp
    refine (HT.out _).mono ?_
    rintro e w7 ⟨rfl, hb⟩
    have R7_c := Lib.hid (rowB R6_c.out hb)
    have B7 := Lib.hid (joins B6.out hb)
    have hHeld := grownB hHeld hb
    clear hb
    refine hK.out _ _ hHeld (fun hHeld => ?_)
    clear hK K
    (try simp only [Act.put, List.getElem_toArray, List.getElem_cons_zero, List.getElem_cons_succ, List.setIfInBounds_toArray, List.set_cons_zero, List.set_cons_succ])
    refine wpAnyH_ready (rs := [5]) (by kernel_rfl) (by simp) ?_
    refine AllReadyH.cons rfl (fun K hK => ?_) AllReadyH.nil
    go_simp
    refine (HLS.out _).mono ?_
    rintro e w8 ⟨v_R, rfl, ho, hb⟩
    have R8_c := Lib.hid (rowB R7_c.out hb)
    have B8 := Lib.hid (joins B7.out hb)
    have O8_R := Lib.hid ho
    have LO_R := Lib.hid (show w.heap.size ≤ w7.heap.size from B7.out.size)
    clear ho
    have hHeld := grownB hHeld hb
    clear hb
    refine hK.out _ _ hHeld (fun hHeld => ?_)
    clear hK K
    (try simp only [Act.put, List.getElem_toArray, List.getElem_cons_zero, List.getElem_cons_succ, List.setIfInBounds_toArray, List.set_cons_zero, List.set_cons_succ])
    refine' wpAnyH_take (i := 6) (v := _) rfl (by kernel_rfl) (by kernel_rfl) (by kernel_rfl) (fun _ _ _ h => h) (Or.inl ⟨by rfl, ?hy4⟩) (by assumption) ?rest4
    case hy4 =>
      intro w h
      (try clear h)
      go_simp
      (try with_reducible rfl)
    (try simp only [Act.put, List.getElem_toArray, List.getElem_cons_zero, List.getElem_cons_succ, List.setIfInBounds_toArray, List.set_cons_zero, List.set_cons_succ])
    refine' wpAnyH_take (i := 7) (v := _) rfl (by kernel_rfl) (by kernel_rfl) (by kernel_rfl) (fun _ _ _ h => h) (Or.inl ⟨by rfl, ?hy5⟩) (by assumption) ?rest5
    case hy5 =>
      intro w h
      (try clear h)
      go_simp
      (try with_reducible rfl)
    (try simp only [Act.put, List.getElem_toArray, List.getElem_cons_zero, List.getElem_cons_succ, List.setIfInBounds_toArray, List.set_cons_zero, List.set_cons_succ])
    refine' wpAnyH_take (i := 8) (v := _) rfl (by kernel_rfl) (by kernel_rfl) (by kernel_rfl) (fun _ _ _ h => h) (Or.inl ⟨by rfl, ?hy6⟩) (by assumption) ?rest6
    case hy6 =>
      intro w h
      (try clear h)
      go_simp
      (try with_reducible rfl)
    (try simp only [Act.put, List.getElem_toArray, List.getElem_cons_zero, List.getElem_cons_succ, List.setIfInBounds_toArray, List.set_cons_zero, List.set_cons_succ])
    refine' wpAnyH_take (i := 9) (v := _) rfl (by kernel_rfl) (by kernel_rfl) (by kernel_rfl) (fun _ _ _ h => h) (Or.inl ⟨by rfl, ?hy7⟩) (by assumption) ?rest7
    case hy7 =>
      intro w h
      (try clear h)
      go_simp
      (try with_reducible rfl)
    (try simp only [Act.put, List.getElem_toArray, List.getElem_cons_zero, List.getElem_cons_succ, List.setIfInBounds_toArray, List.set_cons_zero, List.set_cons_succ])
    refine wpAnyH_done (by kernel_rfl) ?_ _
    go_wp2_with fail
    go_returns
    exact ⟨_, rfl, O8_R.out.mono LO_R.out, B8.out⟩
  | false =>
    have hA : trA m i k = [] := by unfold trA; rw [hok]; rfl
    rw [hA]
    unfold trOk at hok
    rw [← hC] at HM IC SC OC HH
    clear hR hC hA
    cases hr : maRow m i with
    | false =>
      rw [hr] at HH
      clear hr hok
      have B0 := Lib.hid (Below.refl w.heap.size w)
      go_enter Try.func25, Try.ntmps25
      go_wp2_with fail
      refine (HM.out _ B0.out).mono ?_
      rintro e w1 ⟨rfl, hb⟩
      have B1 := Lib.hid (joins B0.out hb)
      clear hb
      go_wp2_with (first
        | ((with_reducible refine at_op (d := some 8) (Op.alloc 41) ?_); refine wpList_alloc_row rfl 41 rfl (mxC V0 0) (fun w => ZZ.out w) ?_; intro w2 hr hb hz; have R2_c := Lib.hid hr; have B2 := Lib.hid (joins B1.out hb); have L2_c := Lib.hid (show w.heap.size ≤ w1.heap.size from B1.out.size); clear hr hb hz)
        | ((with_reducible refine at_op (Op.store 41 (.tmp 8) (.tmp 10)) ?_); refine wpList_put_row rfl 41 (.tmp 8) (.tmp 10) rfl (w1.heap.size) C rfl rfl 41 (mxC V0 0) R2_c.out 65 infoMx SC.out (mxC_size _ _) OC.out w.heap.size w B2.out L2_c.out ?_; intro w3 hr hs hb; have R3_c := Lib.hid hr; have B3 := Lib.hid hb; clear hr hs hb)
        | ((with_reducible refine at_op (Op.load 41 (.tmp 8)) ?_); refine wpList_load_part rfl 41 (.tmp 8) rfl (w1.heap.size) 0 rfl C C 41 (0, 0) _ R3_c.out (Part.self _) Try.underlying41 rfl IC.out ?_))
      refine (HH.out _).mono ?_
      rintro e w4 ⟨rfl, hb⟩
      have R4_c := Lib.hid (rowB R3_c.out hb)
      have B4 := Lib.hid (joins B3.out hb)
      clear hb
      go_wp2_with fail
      go_returns
      exact ⟨_, rfl, OwnR.nil _ _, B4.out⟩
    | true =>
      rw [hr] at HH
      rw [hr, Bool.true_and] at hok
      rw [hok] at HPH
      clear hr hok
      have B0 := Lib.hid (Below.refl w.heap.size w)
      go_enter Try.func25, Try.ntmps25
      go_wp2_with fail
      refine (HM.out _ B0.out).mono ?_
      rintro e w1 ⟨rfl, hb⟩
      have B1 := Lib.hid (joins B0.out hb)
      clear hb
      go_wp2_with (first
        | ((with_reducible refine at_op (d := some 8) (Op.alloc 41) ?_); refine wpList_alloc_row rfl 41 rfl (mxC V0 0) (fun w => ZZ.out w) ?_; intro w2 hr hb hz; have R2_c := Lib.hid hr; have B2 := Lib.hid (joins B1.out hb); have L2_c := Lib.hid (show w.heap.size ≤ w1.heap.size from B1.out.size); clear hr hb hz)
        | ((with_reducible refine at_op (Op.store 41 (.tmp 8) (.tmp 10)) ?_); refine wpList_put_row rfl 41 (.tmp 8) (.tmp 10) rfl (w1.heap.size) C rfl rfl 41 (mxC V0 0) R2_c.out 65 infoMx SC.out (mxC_size _ _) OC.out w.heap.size w B2.out L2_c.out ?_; intro w3 hr hs hb; have R3_c := Lib.hid hr; have B3 := Lib.hid hb; clear hr hs hb)
        | ((with_reducible refine at_op (Op.load 41 (.tmp 8)) ?_); refine wpList_load_part rfl 41 (.tmp 8) rfl (w1.heap.size) 0 rfl C C 41 (0, 0) _ R3_c.out (Part.self _) Try.underlying41 rfl IC.out ?_))
      refine (HH.out _).mono ?_
      rintro e w4 ⟨rfl, hb⟩
      have R4_c := Lib.hid (rowB R3_c.out hb)
      have B4 := Lib.hid (joins B3.out hb)
      clear hb
      go_wp2_with (go_at_call 53; refine (HPH.out _).mono ?_; rintro e w' ⟨rfl, rfl⟩)
      go_returns
      exact ⟨_, rfl, OwnR.nil _ _, B4.out⟩
set_option maxRecDepth 100000 in
set_option maxHeartbeats 4000000 in
theorem iturnColumn (v : Value) (m : List (List Int)) (i k : Int) (w : World) (hv : IR w v m) (hl : sz2 m ≤ 1048576) : Calls Try.prog 29 #[v, .int .i64 i, .int .i64 k] w (MakesRB w (tcA m i k) (trOk m i k)) := by
  have HM := Lib.hid (fun w' (h : Below w.heap.size w w') => matrixFrom_any v m w' (hv.below h) hl)
  have hR := mf_MxR m
  have HH := Lib.hid (hasIndex_any (mfV m) (mfN m) i)
  rw [maRow_inB] at HH
  have ZZ := Lib.hid zeroMx
  have IC := Lib.hid (infoMxC (mfV m) (mfN m))
  have SC := Lib.hid (mxC_size (mfV m) (mfN m))
  have OC := Lib.hid (mxC_one (mfV m) (mfN m))
  obtain ⟨C, hC⟩ : ∃ C, C = mxC (mfV m) (mfN m) := ⟨_, rfl⟩
  obtain ⟨pa, cap, rfl⟩ := hv.slice
  have HPH := Lib.hid (isPhase_any k)
  clear hv
  cases hok : trOk m i k with
  | true =>
    have hok1 := hok
    unfold trOk at hok1
    rw [Bool.and_eq_true] at hok1
    rw [hok1.1] at HH
    rw [hok1.2] at HPH
    have hp := maRow_parts hok1.1
    have hm := hp.1
    have hk : 0 ≤ k ∧ k ≤ 3 := by simpa [inB] using hok1.2
    have hiv : ((i.toNat : Nat) : Int) = i := by omega
    have hx := isV_of k hk.1 hk.2
    have HVO := Lib.hid (valueOf_any k hk.1 hk.2)
    have HT := Lib.hid (columnTimes_any (mfV m) (mfN m) (atM m) hR i.toNat (by rw [mf_yes hm]; exact hp.2.2.1) _ k hx)
    rw [hiv] at HT
    have hLs := lists_any _ _ _ (pg2_MxR hR (i := i.toNat) (by rw [mf_yes hm]; exact hp.2.2.1) hx)
    have e : genR (mfN m) (fun a => gen (mfN m) (fun b => if b = i.toNat then (atM m a b + k) % 4 else atM m a b)) = tcA m i k := by
      unfold tcA
      rw [hok, if_pos rfl, mf_yes hm]
      have hlen : (trM (ovL m) i.toNat k).length = m.length := by rw [trM_length, ovL_length]
      have hi2 : i.toNat < (ovL m).length := by rw [ovL_length]; exact hp.2.2.1
      rw [show ovL (trM (ovL m) i.toNat k) = genR (trM (ovL m) i.toNat k).length (fun a => gen (trM (ovL m) i.toNat k).length (fun b => atM (trM (ovL m) i.toNat k) b a)) from rfl, hlen]
      refine genR_ext (fun a ha => gen_ext (fun b hb => ?_))
      show _ = ((trM (ovL m) i.toNat k).getD b []).getD a 0
      rw [trM_row _ _ _ hi2]
      by_cases h : b = i.toNat
      · rw [if_pos h, if_pos h]
        unfold turnG
        have hsq := ovL_sq m i.toNat hi2
        rw [ovL_length] at hsq
        rw [hsq, gen_getD _ _ _ ha]
        rw [h]
        have := atM_ov m i.toNat a hp.2.2.1 ha
        unfold atM at this ⊢
        rw [this]
      · rw [if_neg h, if_neg h]
        have := atM_ov m b a hb ha
        unfold atM at this ⊢
        rw [this]
    rw [e, mf_ok, hm] at hLs
    have HLS := Lib.hid hLs
    obtain ⟨D, hD⟩ : ∃ C, C = mxC (pg2 i.toNat (mfN m) (fun c => mulB (mfV m c) (f32of (vx k), f32of (vy k))) (mfV m)) (mfN m) := ⟨_, rfl⟩
    unfold cxV at HT
    obtain ⟨x, hxx⟩ : ∃ x, x = f32of (vx k) := ⟨_, rfl⟩
    obtain ⟨y, hyy⟩ : ∃ x, x = f32of (vy k) := ⟨_, rfl⟩
    rw [← hC] at HM HT IC SC OC HH
    rw [← hD] at HT HLS
    rw [← hxx, ← hyy] at HVO HT
    clear hR hLs e hC hD hok hok1 hp hm hk hiv hx hxx hyy
    have B0 := Lib.hid (Below.refl w.heap.size w)
    go_enter Try.func29, Try.ntmps29
    go_wp2_with fail
    refine (HM.out _ B0.out).mono ?_
    rintro e w1 ⟨rfl, hb⟩
    have B1 := Lib.hid (joins B0.out hb)
    clear hb
    go_wp2_with (first
      | ((with_reducible refine at_op (d := some 8) (Op.alloc 41) ?_); refine wpList_alloc_row rfl 41 rfl (mxC V0 0) (fun w => ZZ.out w) ?_; intro w2 hr hb hz; have R2_c := Lib.hid hr; have B2 := Lib.hid (joins B1.out hb); have L2_c := Lib.hid (show w.heap.size ≤ w1.heap.size from B1.out.size); clear hr hb hz)
      | ((with_reducible refine at_op (Op.store 41 (.tmp 8) (.tmp 10)) ?_); refine wpList_put_row rfl 41 (.tmp 8) (.tmp 10) rfl (w1.heap.size) C rfl rfl 41 (mxC V0 0) R2_c.out 65 infoMx SC.out (mxC_size _ _) OC.out w.heap.size w B2.out L2_c.out ?_; intro w3 hr hs hb; have R3_c := Lib.hid hr; have B3 := Lib.hid hb; clear hr hs hb)
      | ((with_reducible refine at_op (Op.load 41 (.tmp 8)) ?_); refine wpList_load_part rfl 41 (.tmp 8) rfl (w1.heap.size) 0 rfl C C 41 (0, 0) _ R3_c.out (Part.self _) Try.underlying41 rfl IC.out ?_))
    refine (HH.out _).mono ?_
    rintro e w4 ⟨rfl, hb⟩
    have R4_c := Lib.hid (rowB R3_c.out hb)
    have B4 := Lib.hid (joins B3.out hb)
    clear hb
    go_wp2_with (go_at_call 53; refine (HPH.out _).mono ?_; rintro e w' ⟨rfl, rfl⟩)
    go_wp2_with fail
    refine wp_region_held_drew (S := (fun w' => World.grownBy w4 w' none)) (by kernel_rfl) (grownDrew (World.grownBy.refl _ _)) ?_
    obtain ⟨w5, hdw⟩ : ∃ w', w' = w4.drew := ⟨_, rfl⟩
    rw [← hdw]
    have hb : Below w4.heap.size w4 w5 := by rw [hdw]; exact belowN (Below.refl _ _) 1
    have R5_c := Lib.hid (rowB R4_c.out hb)
    have B5 := Lib.hid (joins B4.out hb)
    clear hdw hb
    intro hHeld
    refine' wpAnyH_take (i := 0) (v := _) rfl (by kernel_rfl) (by kernel_rfl) (by kernel_rfl) (fun _ _ _ h => h) (yieldsPart (by rfl) 41 (.tmp 8) rfl (w1.heap.size) 0 rfl C C 41 (0, 0) _ (fun w h => (rowG R4_c.out h (by simp))) (Part.self _) Try.underlying41 rfl IC.out) (by assumption) ?rest8
    (try simp only [Act.put, List.getElem_toArray, List.getElem_cons_zero, List.setIfInBounds_toArray, List.set_cons_zero, List.set_cons_succ])
    refine' wpAnyH_take (i := 1) (v := _) rfl (by kernel_rfl) (by kernel_rfl) (by kernel_rfl) (fun _ _ _ h => h) (Or.inl ⟨by rfl, ?hy9⟩) (by assumption) ?rest9
    case hy9 =>
      intro w h
      (try clear h)
      go_simp
      (try with_reducible rfl)
    (try simp only [Act.put, List.getElem_toArray, List.getElem_cons_zero, List.getElem_cons_succ, List.setIfInBounds_toArray, List.set_cons_zero, List.set_cons_succ])
    refine' wpAnyH_take (i := 2) (v := _) rfl (by kernel_rfl) (by kernel_rfl) (by kernel_rfl) (fun _ _ _ h => h) (Or.inl ⟨by rfl, ?hy10⟩) (by assumption) ?rest10
    case hy10 =>
      intro w h
      (try clear h)
      go_simp
      (try with_reducible rfl)
    (try simp only [Act.put, List.getElem_toArray, List.getElem_cons_zero, List.getElem_cons_succ, List.setIfInBounds_toArray, List.set_cons_zero, List.set_cons_succ])
    refine wpAnyH_ready (rs := [3]) (by kernel_rfl) (by simp) ?_
    refine AllReadyH.cons rfl (fun K hK => ?_) AllReadyH.nil
    go_simp
    refine (HVO.out _).mono ?_
    rintro e w6 ⟨rfl, hb⟩
    have R6_c := Lib.hid (rowB R5_c.out hb)
    have B6 := Lib.hid (joins B5.out hb)
    have hHeld := grownB hHeld hb
    clear hb
    refine hK.out _ _ hHeld (fun hHeld => ?_)
    clear hK K
    (try simp only [Act.put, List.getElem_toArray, List.getElem_cons_zero, List.getElem_cons_succ, List.setIfInBounds_toArray, List.set_cons_zero, List.set_cons_succ])
    refine wpAnyH_ready (rs := [4]) (by kernel_rfl) (by simp) ?_
    refine AllReadyH.cons rfl (fun K hK => ?_) AllReadyH.nil
    go_simp
    refine (HT.out _).mono ?_
    rintro e w7 ⟨rfl, hb⟩
    have R7_c := Lib.hid (rowB R6_c.out hb)
    have B7 := Lib.hid (joins B6.out hb)
    have hHeld := grownB hHeld hb
    clear hb
    refine hK.out _ _ hHeld (fun hHeld => ?_)
    clear hK K
    (try simp only [Act.put, List.getElem_toArray, List.getElem_cons_zero, List.getElem_cons_succ, List.setIfInBounds_toArray, List.set_cons_zero, List.set_cons_succ])
    refine wpAnyH_ready (rs := [5]) (by kernel_rfl) (by simp) ?_
    refine AllReadyH.cons rfl (fun K hK => ?_) AllReadyH.nil
    go_simp
    refine (HLS.out _).mono ?_
    rintro e w8 ⟨v_R, rfl, ho, hb⟩
    have R8_c := Lib.hid (rowB R7_c.out hb)
    have B8 := Lib.hid (joins B7.out hb)
    have O8_R := Lib.hid ho
    have LO_R := Lib.hid (show w.heap.size ≤ w7.heap.size from B7.out.size)
    clear ho
    have hHeld := grownB hHeld hb
    clear hb
    refine hK.out _ _ hHeld (fun hHeld => ?_)
    clear hK K
    (try simp only [Act.put, List.getElem_toArray, List.getElem_cons_zero, List.getElem_cons_succ, List.setIfInBounds_toArray, List.set_cons_zero, List.set_cons_succ])
    refine' wpAnyH_take (i := 6) (v := _) rfl (by kernel_rfl) (by kernel_rfl) (by kernel_rfl) (fun _ _ _ h => h) (Or.inl ⟨by rfl, ?hy11⟩) (by assumption) ?rest11
    case hy11 =>
      intro w h
      (try clear h)
      go_simp
      (try with_reducible rfl)
    (try simp only [Act.put, List.getElem_toArray, List.getElem_cons_zero, List.getElem_cons_succ, List.setIfInBounds_toArray, List.set_cons_zero, List.set_cons_succ])
    refine' wpAnyH_take (i := 7) (v := _) rfl (by kernel_rfl) (by kernel_rfl) (by kernel_rfl) (fun _ _ _ h => h) (Or.inl ⟨by rfl, ?hy12⟩) (by assumption) ?rest12
    case hy12 =>
      intro w h
      (try clear h)
      go_simp
      (try with_reducible rfl)
    (try simp only [Act.put, List.getElem_toArray, List.getElem_cons_zero, List.getElem_cons_succ, List.setIfInBounds_toArray, List.set_cons_zero, List.set_cons_succ])
    refine' wpAnyH_take (i := 8) (v := _) rfl (by kernel_rfl) (by kernel_rfl) (by kernel_rfl) (fun _ _ _ h => h) (Or.inl ⟨by rfl, ?hy13⟩) (by assumption) ?rest13
    case hy13 =>
      intro w h
      (try clear h)
      go_simp
      (try with_reducible rfl)
    (try simp only [Act.put, List.getElem_toArray, List.getElem_cons_zero, List.getElem_cons_succ, List.setIfInBounds_toArray, List.set_cons_zero, List.set_cons_succ])
    refine' wpAnyH_take (i := 9) (v := _) rfl (by kernel_rfl) (by kernel_rfl) (by kernel_rfl) (fun _ _ _ h => h) (Or.inl ⟨by rfl, ?hy14⟩) (by assumption) ?rest14
    case hy14 =>
      intro w h
      (try clear h)
      go_simp
      (try with_reducible rfl)
    (try simp only [Act.put, List.getElem_toArray, List.getElem_cons_zero, List.getElem_cons_succ, List.setIfInBounds_toArray, List.set_cons_zero, List.set_cons_succ])
    refine wpAnyH_done (by kernel_rfl) ?_ _
    go_wp2_with fail
    go_returns
    exact ⟨_, rfl, O8_R.out.mono LO_R.out, B8.out⟩
  | false =>
    have hA : tcA m i k = [] := by unfold tcA; rw [hok]; rfl
    rw [hA]
    unfold trOk at hok
    rw [← hC] at HM IC SC OC HH
    clear hR hC hA
    cases hr : maRow m i with
    | false =>
      rw [hr] at HH
      clear hr hok
      have B0 := Lib.hid (Below.refl w.heap.size w)
      go_enter Try.func29, Try.ntmps29
      go_wp2_with fail
      refine (HM.out _ B0.out).mono ?_
      rintro e w1 ⟨rfl, hb⟩
      have B1 := Lib.hid (joins B0.out hb)
      clear hb
      go_wp2_with (first
        | ((with_reducible refine at_op (d := some 8) (Op.alloc 41) ?_); refine wpList_alloc_row rfl 41 rfl (mxC V0 0) (fun w => ZZ.out w) ?_; intro w2 hr hb hz; have R2_c := Lib.hid hr; have B2 := Lib.hid (joins B1.out hb); have L2_c := Lib.hid (show w.heap.size ≤ w1.heap.size from B1.out.size); clear hr hb hz)
        | ((with_reducible refine at_op (Op.store 41 (.tmp 8) (.tmp 10)) ?_); refine wpList_put_row rfl 41 (.tmp 8) (.tmp 10) rfl (w1.heap.size) C rfl rfl 41 (mxC V0 0) R2_c.out 65 infoMx SC.out (mxC_size _ _) OC.out w.heap.size w B2.out L2_c.out ?_; intro w3 hr hs hb; have R3_c := Lib.hid hr; have B3 := Lib.hid hb; clear hr hs hb)
        | ((with_reducible refine at_op (Op.load 41 (.tmp 8)) ?_); refine wpList_load_part rfl 41 (.tmp 8) rfl (w1.heap.size) 0 rfl C C 41 (0, 0) _ R3_c.out (Part.self _) Try.underlying41 rfl IC.out ?_))
      refine (HH.out _).mono ?_
      rintro e w4 ⟨rfl, hb⟩
      have R4_c := Lib.hid (rowB R3_c.out hb)
      have B4 := Lib.hid (joins B3.out hb)
      clear hb
      go_wp2_with fail
      go_returns
      exact ⟨_, rfl, OwnR.nil _ _, B4.out⟩
    | true =>
      rw [hr] at HH
      rw [hr, Bool.true_and] at hok
      rw [hok] at HPH
      clear hr hok
      have B0 := Lib.hid (Below.refl w.heap.size w)
      go_enter Try.func29, Try.ntmps29
      go_wp2_with fail
      refine (HM.out _ B0.out).mono ?_
      rintro e w1 ⟨rfl, hb⟩
      have B1 := Lib.hid (joins B0.out hb)
      clear hb
      go_wp2_with (first
        | ((with_reducible refine at_op (d := some 8) (Op.alloc 41) ?_); refine wpList_alloc_row rfl 41 rfl (mxC V0 0) (fun w => ZZ.out w) ?_; intro w2 hr hb hz; have R2_c := Lib.hid hr; have B2 := Lib.hid (joins B1.out hb); have L2_c := Lib.hid (show w.heap.size ≤ w1.heap.size from B1.out.size); clear hr hb hz)
        | ((with_reducible refine at_op (Op.store 41 (.tmp 8) (.tmp 10)) ?_); refine wpList_put_row rfl 41 (.tmp 8) (.tmp 10) rfl (w1.heap.size) C rfl rfl 41 (mxC V0 0) R2_c.out 65 infoMx SC.out (mxC_size _ _) OC.out w.heap.size w B2.out L2_c.out ?_; intro w3 hr hs hb; have R3_c := Lib.hid hr; have B3 := Lib.hid hb; clear hr hs hb)
        | ((with_reducible refine at_op (Op.load 41 (.tmp 8)) ?_); refine wpList_load_part rfl 41 (.tmp 8) rfl (w1.heap.size) 0 rfl C C 41 (0, 0) _ R3_c.out (Part.self _) Try.underlying41 rfl IC.out ?_))
      refine (HH.out _).mono ?_
      rintro e w4 ⟨rfl, hb⟩
      have R4_c := Lib.hid (rowB R3_c.out hb)
      have B4 := Lib.hid (joins B3.out hb)
      clear hb
      go_wp2_with (go_at_call 53; refine (HPH.out _).mono ?_; rintro e w' ⟨rfl, rfl⟩)
      go_returns
      exact ⟨_, rfl, OwnR.nil _ _, B4.out⟩
end Go.Proofs.Ytbppbkoppbnodaa
