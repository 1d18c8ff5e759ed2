/- The program's isHadamard, IsHadamard. -/
import Derived.Test.YtbppbkoppbnodabHdM
import Derived.Test.YtbppbkoppbnodabIMf
namespace Go.Proofs.Ytbppbkoppbnodab
set_option maxRecDepth 100000
open Go.RowKit

theorem f32_int : ∀ n : Nat, n < 9 → floatOfInt .f32 (n : Int) = f32of (n : Int) := by decide +kernel
theorem mf_ok' (m : List (List Int)) : decide (1 ≤ mfN m) = maOk m := by
  unfold mfN
  cases h : maOk m with
  | true => exact decide_eq_true (maOk_parts h).1.1
  | false => rfl
set_option maxRecDepth 100000 in
set_option maxHeartbeats 4000000 in
theorem innersOfHadamard_any (n : Nat) (hn : n ≤ 8) (w : World) : Calls Try.prog 68 #[.int .i64 n] w (Ret w (.agg (rvC (dgV n n) 64))) := by
  have ZT := Lib.hid zeroTb
  have hcv := fun w => run_convert_int_float (P := Try.prog) w 3 80 .i64 .f32 (n : Int) (by rw [Try.underlying3]; rfl) Try.underlying80
  rw [f32_int n (by omega)] at hcv
  have B0 := Lib.hid (Below.refl w.heap.size w)
  go_enter Try.func68, Try.ntmps68
  go_wp2_with (first
    | ((with_reducible refine at_op (d := some 2) (Op.alloc 53) ?_); refine wpList_alloc_row rfl 53 rfl (rvC V0 64) (fun w => ZT.out w) ?_; intro w1 hr hb hz; have R1_r := Lib.hid hr; have B1 := Lib.hid (joins B0.out hb); have L1_r := Lib.hid (show w.heap.size ≤ w.heap.size from B0.out.size); clear hr hb hz)
    | ((with_reducible refine at_op (d := some 3) (Op.alloc 53) ?_); refine wpList_alloc_row rfl 53 rfl (rvC V0 64) (fun w => ZT.out w) ?_; intro w2 hr hb hz; have N2_r_o := Lib.hid (Nat.ne_of_lt (row_lt R1_r.out)); have N2_o_r := Lib.hid (Ne.symm N2_r_o.out); have R2_r := Lib.hid (rowB R1_r.out hb); have R2_o := Lib.hid hr; have B2 := Lib.hid (joins B1.out hb); have L2_o := Lib.hid (show w.heap.size ≤ w1.heap.size from B1.out.size); clear hr hb hz))
  have LR := L1_r
  have LO := L2_o
  have NRO := N2_r_o
  have NOR := N2_o_r
  have RR0 := R2_r
  have RO0 := R2_o
  have BB0 := B2
  go_loopw [6] (fun q wr => ∃ a : Nat, a ≤ n ∧ q = .int .i64 a ∧ wr.heap[w.heap.size]? = some (.cells (rvC V0 64) 53 (0, 0)) ∧ wr.heap[w1.heap.size]? = some (.cells (rvC (dgV n a) 64) 53 (0, 0)) ∧ Below w.heap.size w wr) (fun q _ => n - (intOf q).toNat)
  case atStart => exact ⟨0, Nat.zero_le _, rfl, RR0.out, by rw [dgV_start]; exact RO0.out, BB0.out⟩
  case round =>
    obtain ⟨a, ha, rfl, hr, ho, hbel⟩ := hrel
    have RR := Lib.hid hr
    have RO := Lib.hid ho
    have BR := Lib.hid hbel
    clear hr ho hbel
    by_cases hlt : a < n
    · have h0 : (0 : Int) ≤ (a : Int) := by omega
      have h1 : (a : Int) < (n : Int) := by omega
      have h8a : (a : Int) < 8 := by omega
      have hset := set_rv RO.out (c := a * 8 + a) (by omega) (f32of (n : Int), 0)
      rw [dgV_step n a (by omega)] at hset
      have ct := cell_rv RO.out (c := a * 8 + a) (by omega)
      have ft := rowFree (i := a * 8 + a) RO.out
      obtain ⟨x, hx⟩ : ∃ x, x = f32of (n : Int) := ⟨_, rfl⟩
      rw [← hx] at hset hcv
      have S2 := Lib.hid hset
      have R2 := Lib.hid ((heap_setCell_other wr ⟨w1.heap.size, a * 8 + a, none⟩ (w.heap.size) (.complex .f32 x 0) NRO.out).trans RR.out)
      have B2 := Lib.hid (BR.out.setCell (p := ⟨w1.heap.size, a * 8 + a, none⟩) LO.out (.complex .f32 x 0))
      clear hset hx
      have hst := @store_complex Try.prog
      go_wp2_with fail
      go_roundw
      case rel => exact ⟨a + 1, by omega, by go_num, R2.out, S2.out, B2.out⟩
      case measure => simp [intOf]; omega
    · obtain rfl : n = a := by omega
      have IW := Lib.hid (infoTbC (dgV n n))
      obtain ⟨W, hW⟩ : ∃ W, W = rvC (dgV n n) 64 := ⟨_, rfl⟩
      have SW := Lib.hid (rvC_size (dgV n n) 64)
      have OW := Lib.hid (rvC_one (dgV n n) 64)
      rw [← hW] at RO IW SW OW
      have HW := Lib.hid hW
      clear hW
      go_wp2_with (first
        | ((with_reducible refine at_op (Op.load 53 (.tmp 3)) ?_); refine wpList_load_part rfl 53 (.tmp 3) rfl (w1.heap.size) 0 rfl W W 53 (0, 0) _ RO.out (Part.self _) Try.underlying53 rfl IW.out ?_)
        | ((with_reducible refine at_op (Op.store 53 (.tmp 2) (.tmp 17)) ?_); refine wpList_put_row rfl 53 (.tmp 2) (.tmp 17) rfl (w.heap.size) W rfl rfl 53 (rvC V0 64) RR.out 64 infoTb SW.out (rvC_size _ _) OW.out w.heap.size w BR.out LR.out ?_; intro w21 hr hs hb; have R21_o := Lib.hid (hs.row RO.out NOR.out); have R21_r := Lib.hid hr; have B21 := Lib.hid hb; clear hr hs hb))
      refine bodyPost_ret (v := .agg W) ?_ rfl ⟨by rw [HW.out], B21.out⟩
      exact results_cell_row Try.results68 _ _ (w.heap.size) 53 W (0, 0) _ rfl R21_r.out Try.underlying53 rfl IW.out

theorem tbGuard : Try.prog.eqGuardType Try.prog.depth 53 = false := by kernel_rfl
def hdB (V : Nat → Nat × Nat) (n : Nat) : Bool := (List.range 8).all (fun i => (List.range 8).all (fun c => eqC (V (i * 8 + c)) (dgV n n (i * 8 + c))))
set_option maxRecDepth 100000 in
set_option maxHeartbeats 4000000 in
theorem isHadamard_any (V : Nat → Nat × Nat) (n : Nat) (M : Nat → Nat → Int) (hV : MxR V n M) (w : World) :
    Calls Try.prog 46 #[.agg (mxC V n)] w (Ret w (.bool (decide (1 ≤ n) && hdB (sqV n (inV M n) V0) n))) := by
  have hn := hV.1
  have HIS := Lib.hid (mxIs_any V n)
  have HIN := Lib.hid (inners_any V n M hV)
  have HID := Lib.hid (innersOfHadamard_any n hn)
  have hq := fun w => run_eql_tb 53 rfl (sqV n (inV M n) V0) (dgV n n) w
  have hg := tbGuard
  have IM := Lib.hid (infoMxC V n)
  have HL := Lib.hid (mxC_side V n)
  obtain ⟨b, hb⟩ : ∃ b, b = hdB (sqV n (inV M n) V0) n := ⟨_, rfl⟩
  have hq2 : ∀ w, (binOp .eql 53 (.agg (rvC (sqV n (inV M n) V0) 64)) (.agg (rvC (dgV n n) 64))).run Try.prog w = .ok (.bool b) w := fun w => by rw [hb]; exact hq w
  rw [← hb]
  obtain ⟨C, hC⟩ : ∃ C, C = mxC V n := ⟨_, rfl⟩
  obtain ⟨W1, hW1⟩ : ∃ W, W = rvC (sqV n (inV M n) V0) 64 := ⟨_, rfl⟩
  obtain ⟨W2, hW2⟩ : ∃ W, W = rvC (dgV n n) 64 := ⟨_, rfl⟩
  rw [← hC] at HIS HIN IM HL ⊢
  rw [← hW1] at HIN hq2
  rw [← hW2] at HID hq2
  clear hV hq hb hC hW1 hW2
  by_cases h1n : 1 ≤ n
  · rw [decide_eq_true h1n] at HIS ⊢
    have B0 := Lib.hid (Below.refl w.heap.size w)
    go_enter Try.func46, Try.ntmps46
    go_wp2_with ((with_reducible refine at_op (Op.box 55 (.tmp 0)) ?_); refine wpList_box_row rfl 55 (.tmp 0) rfl C rfl ?_; intro w1 hr hb hz; have R1_m := Lib.hid hr; have B1 := Lib.hid (joins B0.out hb); have L1_m := Lib.hid (show w.heap.size ≤ w.heap.size from B0.out.size); clear hr hb hz)
    go_wp2_with fail
    refine wp_region_held_drew (S := (fun w' => World.grownBy w1 w' none)) (by kernel_rfl) (grownDrew (World.grownBy.refl _ _)) ?_
    obtain ⟨w2, hdw⟩ : ∃ w', w' = w1.drew := ⟨_, rfl⟩
    rw [← hdw]
    have hb : Below w1.heap.size w1 w2 := by rw [hdw]; exact belowN (Below.refl _ _) 1
    have R2_m := Lib.hid (rowB R1_m.out hb)
    have B2 := Lib.hid (joins B1.out hb)
    clear hdw hb
    intro hHeld
    refine' wpAnyH_take (i := 0) (v := _) rfl (by kernel_rfl) (by kernel_rfl) (by kernel_rfl) (fun _ _ _ h => h) (yieldsPart (by rfl) 55 (.tmp 1) rfl (w.heap.size) 0 rfl C C 55 (0, 0) _ (fun w h => (rowG R1_m.out h (by simp))) (Part.self _) Try.underlying55 rfl IM.out) (by assumption) ?rest1
    (try simp only [Act.put, List.getElem_toArray, List.getElem_cons_zero, List.setIfInBounds_toArray, List.set_cons_zero, List.set_cons_succ])
    refine wpAnyH_ready (rs := [1]) (by kernel_rfl) (by simp) ?_
    refine AllReadyH.cons rfl (fun K hK => ?_) AllReadyH.nil
    go_simp
    refine (HIS.out _).mono ?_
    rintro e w3 ⟨rfl, hb⟩
    have R3_m := Lib.hid (rowB R2_m.out hb)
    have B3 := Lib.hid (joins B2.out hb)
    have hHeld := grownB hHeld hb
    clear hb
    refine hK.out _ _ hHeld (fun hHeld => ?_)
    clear hK K
    (try simp only [Act.put, List.getElem_toArray, List.getElem_cons_zero, List.getElem_cons_succ, List.setIfInBounds_toArray, List.set_cons_zero, List.set_cons_succ])
    refine' wpAnyH_take (i := 2) (v := _) rfl (by kernel_rfl) (by kernel_rfl) (by kernel_rfl) (fun _ _ _ h => h) (Or.inl ⟨by rfl, ?hy2⟩) (by assumption) ?rest2
    case hy2 =>
      intro w h
      (try clear h)
      go_simp
      (try with_reducible rfl)
    (try simp only [Act.put, List.getElem_toArray, List.getElem_cons_zero, List.getElem_cons_succ, List.setIfInBounds_toArray, List.set_cons_zero, List.set_cons_succ])
    refine' wpAnyH_take (i := 3) (v := _) rfl (by kernel_rfl) (by kernel_rfl) (by kernel_rfl) (fun _ _ _ h => h) (yieldsPart (by rfl) 55 (.tmp 1) rfl (w.heap.size) 0 rfl C C 55 (0, 0) _ (fun w h => (rowG R1_m.out h (by simp))) (Part.self _) Try.underlying55 rfl IM.out) (by assumption) ?rest3
    (try simp only [Act.put, List.getElem_toArray, List.getElem_cons_zero, List.getElem_cons_succ, List.setIfInBounds_toArray, List.set_cons_zero, List.set_cons_succ])
    refine' wpAnyH_take (i := 5) (v := _) rfl (by kernel_rfl) (by kernel_rfl) (by kernel_rfl) (fun _ _ _ h => h) (Or.inl ⟨by rfl, ?hy4⟩) (by assumption) ?rest4
    case hy4 =>
      intro w h
      (try clear h)
      go_simp
      (try with_reducible rfl)
    (try simp only [Act.put, List.getElem_toArray, List.getElem_cons_zero, List.getElem_cons_succ, List.setIfInBounds_toArray, List.set_cons_zero, List.set_cons_succ])
    refine' wpAnyH_take (i := 6) (v := _) rfl (by kernel_rfl) (by kernel_rfl) (by kernel_rfl) (fun _ _ _ h => h) (Or.inl ⟨by rfl, ?hy5⟩) (by assumption) ?rest5
    case hy5 =>
      intro w h
      have c0 := rowC (rowG R1_m.out h (by simp)) HL.out
      (try clear h)
      go_simp
      (try with_reducible rfl)
    (try simp only [Act.put, List.getElem_toArray, List.getElem_cons_zero, List.getElem_cons_succ, List.setIfInBounds_toArray, List.set_cons_zero, List.set_cons_succ])
    refine wpAnyH_ready (rs := [4]) (by kernel_rfl) (by simp) ?_
    refine AllReadyH.cons rfl (fun K hK => ?_) AllReadyH.nil
    go_simp
    refine (HIN.out _).mono ?_
    rintro e w4 ⟨rfl, hb⟩
    have R4_m := Lib.hid (rowB R3_m.out hb)
    have B4 := Lib.hid (joins B3.out hb)
    have hHeld := grownB hHeld hb
    clear hb
    refine hK.out _ _ hHeld (fun hHeld => ?_)
    clear hK K
    (try simp only [Act.put, List.getElem_toArray, List.getElem_cons_zero, List.getElem_cons_succ, List.setIfInBounds_toArray, List.set_cons_zero, List.set_cons_succ])
    refine wpAnyH_ready (rs := [7]) (by kernel_rfl) (by simp) ?_
    refine AllReadyH.cons rfl (fun K hK => ?_) AllReadyH.nil
    go_simp
    refine (HID.out _).mono ?_
    rintro e w5 ⟨rfl, hb⟩
    have R5_m := Lib.hid (rowB R4_m.out hb)
    have B5 := Lib.hid (joins B4.out hb)
    have hHeld := grownB hHeld hb
    clear hb
    refine hK.out _ _ hHeld (fun hHeld => ?_)
    clear hK K
    (try simp only [Act.put, List.getElem_toArray, List.getElem_cons_zero, List.getElem_cons_succ, List.setIfInBounds_toArray, List.set_cons_zero, List.set_cons_succ])
    refine' wpAnyH_take (i := 8) (v := _) rfl (by kernel_rfl) (by kernel_rfl) (by kernel_rfl) (fun _ _ _ h => h) (Or.inl ⟨by rfl, ?hy6⟩) (by assumption) ?rest6
    case hy6 =>
      intro w h
      (try clear h)
      go_simp
      (try with_reducible rfl)
    (try simp only [Act.put, List.getElem_toArray, List.getElem_cons_zero, List.getElem_cons_succ, List.setIfInBounds_toArray, List.set_cons_zero, List.set_cons_succ])
    refine' wpAnyH_take (i := 9) (v := _) rfl (by kernel_rfl) (by kernel_rfl) (by kernel_rfl) (fun _ _ _ h => h) (Or.inl ⟨by rfl, ?hy7⟩) (by assumption) ?rest7
    case hy7 =>
      intro w h
      (try clear h)
      go_simp
      (try with_reducible rfl)
    (try simp only [Act.put, List.getElem_toArray, List.getElem_cons_zero, List.getElem_cons_succ, List.setIfInBounds_toArray, List.set_cons_zero, List.set_cons_succ])
    refine' wpAnyH_take (i := 10) (v := _) rfl (by kernel_rfl) (by kernel_rfl) (by kernel_rfl) (fun _ _ _ h => h) (Or.inl ⟨by rfl, ?hy8⟩) (by assumption) ?rest8
    case hy8 =>
      intro w h
      (try clear h)
      go_simp
      (try with_reducible rfl)
    (try simp only [Act.put, List.getElem_toArray, List.getElem_cons_zero, List.getElem_cons_succ, List.setIfInBounds_toArray, List.set_cons_zero, List.set_cons_succ])
    refine wpAnyH_done (by kernel_rfl) ?_ _
    go_wp2_with fail
    go_returns
    exact ⟨rfl, B5.out⟩
  · rw [decide_eq_false h1n] at HIS ⊢
    have B0 := Lib.hid (Below.refl w.heap.size w)
    go_enter Try.func46, Try.ntmps46
    go_wp2_with ((with_reducible refine at_op (Op.box 55 (.tmp 0)) ?_); refine wpList_box_row rfl 55 (.tmp 0) rfl C rfl ?_; intro w1 hr hb hz; have R1_m := Lib.hid hr; have B1 := Lib.hid (joins B0.out hb); have L1_m := Lib.hid (show w.heap.size ≤ w.heap.size from B0.out.size); clear hr hb hz)
    go_wp2_with fail
    refine wp_region_held_drew (S := (fun w' => World.grownBy w1 w' none)) (by kernel_rfl) (grownDrew (World.grownBy.refl _ _)) ?_
    obtain ⟨w2, hdw⟩ : ∃ w', w' = w1.drew := ⟨_, rfl⟩
    rw [← hdw]
    have hb : Below w1.heap.size w1 w2 := by rw [hdw]; exact belowN (Below.refl _ _) 1
    have R2_m := Lib.hid (rowB R1_m.out hb)
    have B2 := Lib.hid (joins B1.out hb)
    clear hdw hb
    intro hHeld
    refine' wpAnyH_take (i := 0) (v := _) rfl (by kernel_rfl) (by kernel_rfl) (by kernel_rfl) (fun _ _ _ h => h) (yieldsPart (by rfl) 55 (.tmp 1) rfl (w.heap.size) 0 rfl C C 55 (0, 0) _ (fun w h => (rowG R1_m.out h (by simp))) (Part.self _) Try.underlying55 rfl IM.out) (by assumption) ?rest9
    (try simp only [Act.put, List.getElem_toArray, List.getElem_cons_zero, List.setIfInBounds_toArray, List.set_cons_zero, List.set_cons_succ])
    refine wpAnyH_ready (rs := [1]) (by kernel_rfl) (by simp) ?_
    refine AllReadyH.cons rfl (fun K hK => ?_) AllReadyH.nil
    go_simp
    refine (HIS.out _).mono ?_
    rintro e w3 ⟨rfl, hb⟩
    have R3_m := Lib.hid (rowB R2_m.out hb)
    have B3 := Lib.hid (joins B2.out hb)
    have hHeld := grownB hHeld hb
    clear hb
    refine hK.out _ _ hHeld (fun hHeld => ?_)
    clear hK K
    (try simp only [Act.put, List.getElem_toArray, List.getElem_cons_zero, List.getElem_cons_succ, List.setIfInBounds_toArray, List.set_cons_zero, List.set_cons_succ])
    refine' wpAnyH_take (i := 2) (v := _) rfl (by kernel_rfl) (by kernel_rfl) (by kernel_rfl) (fun _ _ _ h => h) (Or.inl ⟨by rfl, ?hy10⟩) (by assumption) ?rest10
    case hy10 =>
      intro w h
      (try clear h)
      go_simp
      (try with_reducible rfl)
    (try simp only [Act.put, List.getElem_toArray, List.getElem_cons_zero, List.getElem_cons_succ, List.setIfInBounds_toArray, List.set_cons_zero, List.set_cons_succ])
    refine' wpAnyH_take (i := 3) (v := _) rfl (by kernel_rfl) (by kernel_rfl) (by kernel_rfl) (fun _ _ _ h => h) (Or.inr ⟨by rfl, rfl⟩) (by assumption) ?rest11
    (try simp only [Act.put, List.getElem_toArray, List.getElem_cons_zero, List.getElem_cons_succ, List.setIfInBounds_toArray, List.set_cons_zero, List.set_cons_succ])
    refine' wpAnyH_take (i := 4) (v := _) rfl (by kernel_rfl) (by kernel_rfl) (by kernel_rfl) (fun _ _ _ h => h) (Or.inr ⟨by rfl, rfl⟩) (by assumption) ?rest12
    (try simp only [Act.put, List.getElem_toArray, List.getElem_cons_zero, List.getElem_cons_succ, List.setIfInBounds_toArray, List.set_cons_zero, List.set_cons_succ])
    refine' wpAnyH_take (i := 5) (v := _) rfl (by kernel_rfl) (by kernel_rfl) (by kernel_rfl) (fun _ _ _ h => h) (Or.inr ⟨by rfl, rfl⟩) (by assumption) ?rest13
    (try simp only [Act.put, List.getElem_toArray, List.getElem_cons_zero, List.getElem_cons_succ, List.setIfInBounds_toArray, List.set_cons_zero, List.set_cons_succ])
    refine' wpAnyH_take (i := 6) (v := _) rfl (by kernel_rfl) (by kernel_rfl) (by kernel_rfl) (fun _ _ _ h => h) (Or.inr ⟨by rfl, rfl⟩) (by assumption) ?rest14
    (try simp only [Act.put, List.getElem_toArray, List.getElem_cons_zero, List.getElem_cons_succ, List.setIfInBounds_toArray, List.set_cons_zero, List.set_cons_succ])
    refine' wpAnyH_take (i := 7) (v := _) rfl (by kernel_rfl) (by kernel_rfl) (by kernel_rfl) (fun _ _ _ h => h) (Or.inr ⟨by rfl, rfl⟩) (by assumption) ?rest15
    (try simp only [Act.put, List.getElem_toArray, List.getElem_cons_zero, List.getElem_cons_succ, List.setIfInBounds_toArray, List.set_cons_zero, List.set_cons_succ])
    refine' wpAnyH_take (i := 8) (v := _) rfl (by kernel_rfl) (by kernel_rfl) (by kernel_rfl) (fun _ _ _ h => h) (Or.inr ⟨by rfl, rfl⟩) (by assumption) ?rest16
    (try simp only [Act.put, List.getElem_toArray, List.getElem_cons_zero, List.getElem_cons_succ, List.setIfInBounds_toArray, List.set_cons_zero, List.set_cons_succ])
    refine' wpAnyH_take (i := 9) (v := _) rfl (by kernel_rfl) (by kernel_rfl) (by kernel_rfl) (fun _ _ _ h => h) (Or.inl ⟨by rfl, ?hy17⟩) (by assumption) ?rest17
    case hy17 =>
      intro w h
      (try clear h)
      go_simp
      (try with_reducible rfl)
    (try simp only [Act.put, List.getElem_toArray, List.getElem_cons_zero, List.getElem_cons_succ, List.setIfInBounds_toArray, List.set_cons_zero, List.set_cons_succ])
    refine' wpAnyH_take (i := 10) (v := _) rfl (by kernel_rfl) (by kernel_rfl) (by kernel_rfl) (fun _ _ _ h => h) (Or.inl ⟨by rfl, ?hy18⟩) (by assumption) ?rest18
    case hy18 =>
      intro w h
      (try clear h)
      go_simp
      (try with_reducible rfl)
    (try simp only [Act.put, List.getElem_toArray, List.getElem_cons_zero, List.getElem_cons_succ, List.setIfInBounds_toArray, List.set_cons_zero, List.set_cons_succ])
    refine wpAnyH_done (by kernel_rfl) ?_ _
    go_wp2_with fail
    go_returns
    exact ⟨rfl, B3.out⟩
set_option maxRecDepth 100000 in
set_option maxHeartbeats 4000000 in
theorem iisHadamard (v : Value) (m : List (List Int)) (w : World) (hv : IR w v m) (hl : sz2 m ≤ 1048576) : Calls Try.prog 20 #[v] w (Ret w (.tuple #[.bool (maOk m && haB m), .bool (maOk m)])) := by
  have HM := Lib.hid (fun w' (h : Below w.heap.size w w') => matrixFrom_any v m w' (hv.below h) hl)
  have hR := mf_MxR m
  have HH := isHadamard_any (mfV m) (mfN m) _ hR
  have HIS := mxIs_any (mfV m) (mfN m)
  rw [mf_ok'] at HH HIS
  have e : (maOk m && hdB (sqV (mfN m) (inV (atM m) (mfN m)) V0) (mfN m)) = (maOk m && haB m) := by
    cases h : maOk m with
    | false => rfl
    | true =>
      rw [Bool.true_and, Bool.true_and]
      have hN : mfN m = m.length := by unfold mfN; rw [h]; rfl
      rw [hN]
      exact tab_ha h
  rw [e] at HH
  have HH' := Lib.hid HH
  have HIS' := Lib.hid HIS
  have ZZ := Lib.hid zeroMx
  have IC := Lib.hid (infoMxC (mfV m) (mfN m))
  have SC := Lib.hid (mxC_size (mfV m) (mfN m))
  have OC := Lib.hid (mxC_one (mfV m) (mfN m))
  obtain ⟨C, hC⟩ : ∃ C, C = mxC (mfV m) (mfN m) := ⟨_, rfl⟩
  rw [← hC] at HM HH' HIS' IC SC OC
  obtain ⟨pa, cap, rfl⟩ := hv.slice
  clear hv hR HH HIS e hC
  have B0 := Lib.hid (Below.refl w.heap.size w)
  go_enter Try.func20, Try.ntmps20
  go_wp2_with fail
  refine (HM.out _ B0.out).mono ?_
  rintro e w1 ⟨rfl, hb⟩
  have B1 := Lib.hid (joins B0.out hb)
  clear hb
  go_wp2_with (first
    | ((with_reducible refine at_op (d := some 4) (Op.alloc 55) ?_); refine wpList_alloc_row rfl 55 rfl (mxC V0 0) (fun w => ZZ.out w) ?_; intro w2 hr hb hz; have R2_c := Lib.hid hr; have B2 := Lib.hid (joins B1.out hb); have L2_c := Lib.hid (show w.heap.size ≤ w1.heap.size from B1.out.size); clear hr hb hz)
    | ((with_reducible refine at_op (Op.store 55 (.tmp 4) (.tmp 6)) ?_); refine wpList_put_row rfl 55 (.tmp 4) (.tmp 6) rfl (w1.heap.size) C rfl rfl 55 (mxC V0 0) R2_c.out 65 infoMx SC.out (mxC_size _ _) OC.out w.heap.size w B2.out L2_c.out ?_; intro w3 hr hs hb; have R3_c := Lib.hid hr; have B3 := Lib.hid hb; clear hr hs hb))
  go_wp2_with fail
  refine wp_region_held_drew (S := (fun w' => World.grownBy w3 w' none)) (by kernel_rfl) (grownDrew (World.grownBy.refl _ _)) ?_
  obtain ⟨w4, hdw⟩ : ∃ w', w' = w3.drew := ⟨_, rfl⟩
  rw [← hdw]
  have hb : Below w3.heap.size w3 w4 := by rw [hdw]; exact belowN (Below.refl _ _) 1
  have R4_c := Lib.hid (rowB R3_c.out hb)
  have B4 := Lib.hid (joins B3.out hb)
  clear hdw hb
  intro hHeld
  refine' wpAnyH_take (i := 0) (v := _) rfl (by kernel_rfl) (by kernel_rfl) (by kernel_rfl) (fun _ _ _ h => h) (yieldsPart (by rfl) 55 (.tmp 4) rfl (w1.heap.size) 0 rfl C C 55 (0, 0) _ (fun w h => (rowG R3_c.out h (by simp))) (Part.self _) Try.underlying55 rfl IC.out) (by assumption) ?rest19
  (try simp only [Act.put, List.getElem_toArray, List.getElem_cons_zero, List.setIfInBounds_toArray, List.set_cons_zero, List.set_cons_succ])
  refine' wpAnyH_take (i := 2) (v := _) rfl (by kernel_rfl) (by kernel_rfl) (by kernel_rfl) (fun _ _ _ h => h) (yieldsPart (by rfl) 55 (.tmp 4) rfl (w1.heap.size) 0 rfl C C 55 (0, 0) _ (fun w h => (rowG R3_c.out h (by simp))) (Part.self _) Try.underlying55 rfl IC.out) (by assumption) ?rest20
  (try simp only [Act.put, List.getElem_toArray, List.getElem_cons_zero, List.getElem_cons_succ, List.setIfInBounds_toArray, List.set_cons_zero, List.set_cons_succ])
  refine wpAnyH_ready (rs := [1]) (by kernel_rfl) (by simp) ?_
  refine AllReadyH.cons rfl (fun K hK => ?_) AllReadyH.nil
  go_simp
  refine (HH'.out _).mono ?_
  rintro e w5 ⟨rfl, hb⟩
  have R5_c := Lib.hid (rowB R4_c.out hb)
  have B5 := Lib.hid (joins B4.out hb)
  have hHeld := grownB hHeld hb
  clear hb
  refine hK.out _ _ hHeld (fun hHeld => ?_)
  clear hK K
  (try simp only [Act.put, List.getElem_toArray, List.getElem_cons_zero, List.getElem_cons_succ, List.setIfInBounds_toArray, List.set_cons_zero, List.set_cons_succ])
  refine wpAnyH_ready (rs := [3]) (by kernel_rfl) (by simp) ?_
  refine AllReadyH.cons rfl (fun K hK => ?_) AllReadyH.nil
  go_simp
  refine (HIS'.out _).mono ?_
  rintro e w6 ⟨rfl, hb⟩
  have R6_c := Lib.hid (rowB R5_c.out hb)
  have B6 := Lib.hid (joins B5.out hb)
  have hHeld := grownB hHeld hb
  clear hb
  refine hK.out _ _ hHeld (fun hHeld => ?_)
  clear hK K
  (try simp only [Act.put, List.getElem_toArray, List.getElem_cons_zero, List.getElem_cons_succ, List.setIfInBounds_toArray, List.set_cons_zero, List.set_cons_succ])
  refine' wpAnyH_take (i := 4) (v := _) rfl (by kernel_rfl) (by kernel_rfl) (by kernel_rfl) (fun _ _ _ h => h) (Or.inl ⟨by rfl, ?hy21⟩) (by assumption) ?rest21
  case hy21 =>
    intro w h
    (try clear h)
    go_simp
    (try with_reducible rfl)
  (try simp only [Act.put, List.getElem_toArray, List.getElem_cons_zero, List.getElem_cons_succ, List.setIfInBounds_toArray, List.set_cons_zero, List.set_cons_succ])
  refine' wpAnyH_take (i := 5) (v := _) rfl (by kernel_rfl) (by kernel_rfl) (by kernel_rfl) (fun _ _ _ h => h) (Or.inl ⟨by rfl, ?hy22⟩) (by assumption) ?rest22
  case hy22 =>
    intro w h
    (try clear h)
    go_simp
    (try with_reducible rfl)
  (try simp only [Act.put, List.getElem_toArray, List.getElem_cons_zero, List.getElem_cons_succ, List.setIfInBounds_toArray, List.set_cons_zero, List.set_cons_succ])
  refine wpAnyH_done (by kernel_rfl) ?_ _
  go_wp2_with fail
  go_returns
  exact ⟨rfl, B6.out⟩
end Go.Proofs.Ytbppbkoppbnodab
