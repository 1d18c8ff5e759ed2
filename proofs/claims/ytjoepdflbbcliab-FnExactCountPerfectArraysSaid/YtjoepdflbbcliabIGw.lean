/- The program's gridWith. -/
import Derived.Test.YtjoepdflbbcliabIGm
import Derived.Test.YtjoepdflbbcliabRg
namespace Go.Proofs.Ytjoepdflbbcliab
set_option maxRecDepth 100000
open Go.RowKit

set_option maxRecDepth 100000 in
set_option maxHeartbeats 2000000 in
theorem gridWith_no (n m : Nat) (f : Value) (w : World) (hs : (sideB n && sideB m) = false) : Calls Try.prog 48 #[.int .i64 n, .int .i64 m, f] w (Ret w (.agg (grA G0 0 0))) := by
  have H1 := Lib.hid (isSide_any n)
  have H2 := Lib.hid (isSide_any m)
  have ZZ := Lib.hid zeroGr
  have B00 := Lib.hid builtGr0
  have IZ := Lib.hid (infoGrA G0 0 0)
  have SZ := Lib.hid (grA_size G0 0 0)
  have OZ := Lib.hid (grA_one G0 0 0)
  have B0 := Lib.hid (Below.refl w.heap.size w)
  obtain ⟨Z, hZ⟩ : ∃ Z, Z = grA G0 0 0 := ⟨_, rfl⟩
  rw [← hZ] at ZZ B00 IZ SZ OZ ⊢
  clear hZ
  cases hq : sideB n with
  | false =>
    rw [hq] at H1
    clear hq hs
    go_enter Try.func48, Try.ntmps48
    go_wp2_with ((with_reducible refine at_op (d := some 6) (Op.alloc 53) ?_); refine wpList_alloc_row rfl 53 rfl Z (fun w => ZZ.out w) ?_; intro w1 hr hb hz; have R1 := Lib.hid hr; have B1 := Lib.hid (joins B0.out hb); clear hr hb hz)
    refine (H1.out _).mono ?_
    rintro e w2 ⟨rfl, rfl⟩
    go_wp2_with (first
      | ((with_reducible refine at_op (Op.build 53 #[]) ?_); refine wpList_build_row rfl 53 [] rfl Z B00.out ?_)
      | ((with_reducible refine at_op (Op.store 53 (.tmp 6) (.tmp 18)) ?_); refine wpList_put_row rfl 53 (.tmp 6) (.tmp 18) rfl (w.heap.size) Z rfl rfl 53 Z R1.out 66 infoGr SZ.out SZ.out OZ.out w.heap.size w B1.out (Nat.le_refl _) ?_; intro w3 hr hs hb; have R3 := Lib.hid hr; have B3 := Lib.hid hb; clear hr hs hb))
    refine bodyPost_ret (v := .agg Z) ?_ rfl ⟨rfl, B3.out⟩
    exact results_cell_row Try.results48 _ _ (w.heap.size) 53 Z (0, 0) _ rfl R3.out Try.underlying53 rfl IZ.out
  | true =>
    rw [hq, Bool.true_and] at hs
    rw [hq] at H1
    rw [hs] at H2
    clear hq hs
    go_enter Try.func48, Try.ntmps48
    go_wp2_with ((with_reducible refine at_op (d := some 6) (Op.alloc 53) ?_); refine wpList_alloc_row rfl 53 rfl Z (fun w => ZZ.out w) ?_; intro w1 hr hb hz; have R1 := Lib.hid hr; have B1 := Lib.hid (joins B0.out hb); clear hr hb hz)
    refine (H1.out _).mono ?_
    rintro e w2 ⟨rfl, rfl⟩
    go_wp2_with fail
    refine (H2.out _).mono ?_
    rintro e w2 ⟨rfl, rfl⟩
    go_wp2_with (first
      | ((with_reducible refine at_op (Op.build 53 #[]) ?_); refine wpList_build_row rfl 53 [] rfl Z B00.out ?_)
      | ((with_reducible refine at_op (Op.store 53 (.tmp 6) (.tmp 18)) ?_); refine wpList_put_row rfl 53 (.tmp 6) (.tmp 18) rfl (w.heap.size) Z rfl rfl 53 Z R1.out 66 infoGr SZ.out SZ.out OZ.out w.heap.size w B1.out (Nat.le_refl _) ?_; intro w3 hr hs hb; have R3 := Lib.hid hr; have B3 := Lib.hid hb; clear hr hs hb))
    refine bodyPost_ret (v := .agg Z) ?_ rfl ⟨rfl, B3.out⟩
    exact results_cell_row Try.results48 _ _ (w.heap.size) 53 Z (0, 0) _ rfl R3.out Try.underlying53 rfl IZ.out

set_option maxRecDepth 100000 in
set_option maxHeartbeats 4000000 in
theorem gridWith_outer (n m : Nat) (F : Nat → Nat → Int) (hn : 1 ≤ n ∧ n ≤ 8) (hm : 1 ≤ m ∧ m ≤ 8) (hF : ∀ i j, i < n → j < m → -1000000 ≤ F i j ∧ F i j ≤ 1000000) (p0 p1 : Value) (w : World)
    (hat : ∀ w', Below w.heap.size w w' → ∀ i j : Nat, i < n → j < m → Calls Try.prog 49 #[.int .i64 i, .int .i64 j, p0, p1] w' (Ret w' (.int .i64 (F i j)))) :
    Calls Try.prog 48 #[.int .i64 n, .int .i64 m, .func (.func 49) #[] #[p0, p1]] w (Ret w (.agg (grA (GV n m (fun i j => F i j % 4)) n m))) := by
  have H1 := Lib.hid (isSide_any n)
  have H2 := Lib.hid (isSide_any m)
  rw [show sideB n = true from decide_eq_true hn] at H1
  rw [show sideB m = true from decide_eq_true hm] at H2
  have ZZ := Lib.hid zeroGr
  have HBU := Lib.hid (builtGr n m)
  have B0 := Lib.hid (Below.refl w.heap.size w)
  have HAT := Lib.hid hat
  have HFB := Lib.hid hF
  obtain ⟨M, hM⟩ : ∃ M : Nat → Nat → Int, M = fun i j => F i j % 4 := ⟨_, rfl⟩
  have HMF := Lib.hid (fun (i j : Nat) => show M i j = F i j % 4 by rw [hM])
  rw [← hM]
  obtain ⟨n1, n8⟩ := hn
  obtain ⟨m1, m8⟩ := hm
  clear hM hat hF
  go_enter Try.func48, Try.ntmps48
  go_wp2_with ((with_reducible refine at_op (d := some 6) (Op.alloc 53) ?_); refine wpList_alloc_row rfl 53 rfl (grA G0 0 0) (fun w => ZZ.out w) ?_; intro w1 hr hb hz; have R1_r := Lib.hid hr; have B1 := Lib.hid (joins B0.out hb); clear hr hb hz)
  refine (H1.out _).mono ?_
  rintro e w2 ⟨rfl, rfl⟩
  go_wp2_with fail
  refine (H2.out _).mono ?_
  rintro e w2 ⟨rfl, rfl⟩
  go_wp2_with (first
    | ((with_reducible refine at_op (Op.build 53 #[(1, .tmp 19), (2, .tmp 20)]) ?_); refine wpList_build_row rfl 53 [(1, .tmp 19), (2, .tmp 20)] rfl (grA G0 n m) HBU.out ?_)
    | ((with_reducible refine at_op (d := some 7) (Op.alloc 53) ?_); refine wpList_alloc_row rfl 53 rfl (grA G0 0 0) (fun w => ZZ.out w) ?_; intro w3 hr hb hz; have N3_r_m := Lib.hid (Nat.ne_of_lt (row_lt R1_r.out)); have R3_r := Lib.hid (rowB R1_r.out hb); have R3_m := Lib.hid hr; have B3 := Lib.hid (joins B1.out hb); have L3_m := Lib.hid B1.out.size; clear hr hb hz)
    | ((with_reducible refine at_op (Op.store 53 (.tmp 7) (.tmp 21)) ?_); refine wpList_put_row rfl 53 (.tmp 7) (.tmp 21) rfl _ (grA G0 n m) rfl rfl 53 (grA G0 0 0) R3_m.out 66 infoGr (grA_size _ _ _) (grA_size _ _ _) (grA_one _ _ _) w.heap.size w B3.out L3_m.out ?_; intro w4 hr hs hb; have R4_r := Lib.hid (hs.row R3_r.out N3_r_m.out); have R4_m := Lib.hid hr; have B4 := Lib.hid hb; clear hr hs hb))
  have LM := Lib.hid L3_m.out
  have NRM := Lib.hid N3_r_m.out
  have RM0 := Lib.hid R4_m.out
  have RR0 := Lib.hid R4_r.out
  have BB0 := Lib.hid B4.out
  clear R1_r B1 R3_r R3_m B3 L3_m N3_r_m R4_r R4_m B4
  obtain ⟨gm, hgm⟩ : ∃ g, g = w1.heap.size := ⟨_, rfl⟩
  rw [← hgm] at LM NRM RM0 ⊢
  clear hgm
  go_loopw [23] (fun q wr => ∃ a : Nat, a ≤ n ∧ q = .int .i64 a ∧ wr.heap[gm]? = some (.cells (grA (GP n m a 0 M) n m) 53 (0, 0)) ∧ wr.heap[w.heap.size]? = some (.cells (grA G0 0 0) 53 (0, 0)) ∧ Below w.heap.size w wr) (fun q _ => n - (intOf q).toNat)
  case atStart => exact ⟨0, Nat.zero_le _, rfl, by rw [GP_start]; exact RM0.out, RR0.out, BB0.out⟩
  case round =>
    obtain ⟨a, ha, rfl, hm, hr, hbel⟩ := hrel
    obtain ⟨wo, hwo⟩ : ∃ wo, wo = wr := ⟨_, rfl⟩
    rw [← hwo] at hm hr hbel ⊢
    clear hwo
    have RM := Lib.hid hm
    have RR := Lib.hid hr
    have BR := Lib.hid hbel
    clear hm hr hbel
    by_cases hlt : a < n
    · have h0 : (0 : Int) ≤ (a : Int) := by omega
      have h1 : (a : Int) < (n : Int) := by omega
      go_wp2_with fail
      go_loopw [27] (fun q wr => ∃ b : Nat, b ≤ m ∧ q = .int .i64 b ∧ wr.heap[gm]? = some (.cells (grA (GP n m a b M) n m) 53 (0, 0)) ∧ wr.heap[w.heap.size]? = some (.cells (grA G0 0 0) 53 (0, 0)) ∧ Below w.heap.size w wr) (fun q _ => m - (intOf q).toNat)
      case atStart => exact ⟨0, Nat.zero_le _, rfl, RM.out, RR.out, BR.out⟩
      case round =>
        obtain ⟨b, hb, rfl, hm, hr, hbel⟩ := hrel
        obtain ⟨wx, hwx⟩ : ∃ wo, wo = wr := ⟨_, rfl⟩
        rw [← hwx] at hm hr hbel ⊢
        clear hwx
        have RM2 := Lib.hid hm
        have RR2 := Lib.hid hr
        have BR2 := Lib.hid hbel
        clear hm hr hbel
        by_cases hlb : b < m
        · have h0b : (0 : Int) ≤ (b : Int) := by omega
          have h1b : (b : Int) < (m : Int) := by omega
          have h8a : (a : Int) < 8 := by omega
          have h8b : (b : Int) < 8 := by omega
          have hfb := HFB.out a b hlt hlb
          have HATk := Lib.hid (fun w' (h : Below w.heap.size w w') => HAT.out w' h a b hlt hlb)
          have HCELL := Lib.hid (fun (w' : World) (h : w'.heap[gm]? = some (.cells (grA (GP n m a b M) n m) 53 (0, 0))) => rowC h (grA_get (GP n m a b M) n m (a * 8 + b) (by omega)))
          have hset := fun (w' : World) (h : w'.heap[gm]? = some (.cells (grA (GP n m a b M) n m) 53 (0, 0))) => heap_setCell_same w' gm (a * 8 + b) _ _ (.int .i64 (M a b)) h
          simp only [grA_set (GP n m a b M) n m (a * 8 + b) (by omega), GP_step n m a b M m8 hlt hlb] at hset
          have hmf := HMF.out a b
          rw [hmf] at hset
          obtain ⟨x, hx⟩ : ∃ x, x = F a b := ⟨_, rfl⟩
          rw [← hx] at hset hfb HATk
          have HSET := Lib.hid hset
          obtain ⟨hx1, hx2⟩ := hfb
          have HMO := Lib.hid (modulo_any x 4 (by omega) (by omega) (by omega) (by omega))
          clear hset hmf hx
          go_wp2_with fail
          refine wp_region_held_drew (S := (fun w' => World.grownBy wx w' (some (gm)))) (by kernel_rfl) (grownDrew (World.grownBy.refl _ _)) ?_
          obtain ⟨d1, hdw⟩ : ∃ w', w' = wx.drew := ⟨_, rfl⟩
          rw [← hdw]
          have hb : Below wx.heap.size wx d1 := by rw [hdw]; exact belowN (Below.refl _ _) 1
          have F1_M := Lib.hid (rowB RM2.out hb)
          have F1_R := Lib.hid (rowB RR2.out hb)
          have F1_B := Lib.hid (joins BR2.out hb)
          clear hdw hb
          intro hHeld
          refine' wpAnyH_take (i := 0) (v := _) rfl (by kernel_rfl) (by kernel_rfl) (by kernel_rfl) (fun _ _ _ h => h) (Or.inl ⟨by rfl, ?hy1⟩) (by assumption) ?rest1
          case hy1 =>
            intro w h
            (try clear h)
            go_simp
            (try with_reducible rfl)
          (try simp only [Act.put, List.getElem_toArray, List.getElem_cons_zero, List.setIfInBounds_toArray, List.set_cons_zero, List.set_cons_succ])
          refine' wpAnyH_take (i := 1) (v := _) rfl (by kernel_rfl) (by kernel_rfl) (by kernel_rfl) (fun _ _ _ h => h) (Or.inl ⟨by rfl, ?hy2⟩) (by assumption) ?rest2
          case hy2 =>
            intro w h
            (try clear h)
            go_simp
            (try with_reducible rfl)
          (try simp only [Act.put, List.getElem_toArray, List.getElem_cons_zero, List.getElem_cons_succ, List.setIfInBounds_toArray, List.set_cons_zero, List.set_cons_succ])
          refine' wpAnyH_take (i := 2) (v := _) rfl (by kernel_rfl) (by kernel_rfl) (by kernel_rfl) (fun _ _ _ h => h) (Or.inl ⟨by rfl, ?hy3⟩) (by assumption) ?rest3
          case hy3 =>
            intro w h
            (try clear h)
            go_simp
            (try with_reducible rfl)
          (try simp only [Act.put, List.getElem_toArray, List.getElem_cons_zero, List.getElem_cons_succ, List.setIfInBounds_toArray, List.set_cons_zero, List.set_cons_succ])
          refine' wpAnyH_take (i := 3) (v := _) rfl (by kernel_rfl) (by kernel_rfl) (by kernel_rfl) (fun _ _ _ h => h) (Or.inl ⟨by rfl, ?hy4⟩) (by assumption) ?rest4
          case hy4 =>
            intro w h
            (try clear h)
            go_simp
            (try with_reducible rfl)
          (try simp only [Act.put, List.getElem_toArray, List.getElem_cons_zero, List.getElem_cons_succ, List.setIfInBounds_toArray, List.set_cons_zero, List.set_cons_succ])
          refine' wpAnyH_take (i := 4) (v := _) rfl (by kernel_rfl) (by kernel_rfl) (by kernel_rfl) (fun _ _ _ h => h) (Or.inl ⟨by rfl, ?hy5⟩) (by assumption) ?rest5
          case hy5 =>
            intro w h
            (try clear h)
            go_simp
            (try with_reducible rfl)
          (try simp only [Act.put, List.getElem_toArray, List.getElem_cons_zero, List.getElem_cons_succ, List.setIfInBounds_toArray, List.set_cons_zero, List.set_cons_succ])
          refine' wpAnyH_take (i := 7) (v := _) rfl (by kernel_rfl) (by kernel_rfl) (by kernel_rfl) (fun _ _ _ h => h) (Or.inl ⟨by rfl, ?hy6⟩) (by assumption) ?rest6
          case hy6 =>
            intro w h
            (try clear h)
            go_simp
            (try with_reducible rfl)
          (try simp only [Act.put, List.getElem_toArray, List.getElem_cons_zero, List.getElem_cons_succ, List.setIfInBounds_toArray, List.set_cons_zero, List.set_cons_succ])
          refine' wpAnyH_take (i := 8) (v := _) rfl (by kernel_rfl) (by kernel_rfl) (by kernel_rfl) (fun _ _ _ h => h) (Or.inl ⟨by rfl, ?hy7⟩) (by assumption) ?rest7
          case hy7 =>
            intro w h
            have p1 := h8a
            (try clear h)
            go_simp
            (try with_reducible rfl)
          (try simp only [Act.put, List.getElem_toArray, List.getElem_cons_zero, List.getElem_cons_succ, List.setIfInBounds_toArray, List.set_cons_zero, List.set_cons_succ])
          refine wpAnyH_ready (rs := [5]) (by kernel_rfl) (by simp) ?_
          refine AllReadyH.cons rfl (fun K hK => ?_) AllReadyH.nil
          go_simp
          refine (HATk.out _ F1_B.out).mono ?_
          rintro e d2 ⟨rfl, hb⟩
          have F2_M := Lib.hid (rowB F1_M.out hb)
          have F2_R := Lib.hid (rowB F1_R.out hb)
          have F2_B := Lib.hid (joins F1_B.out hb)
          have hHeld := grownB hHeld hb
          clear hb
          refine hK.out _ _ hHeld (fun hHeld => ?_)
          clear hK K
          (try simp only [Act.put, List.getElem_toArray, List.getElem_cons_zero, List.getElem_cons_succ, List.setIfInBounds_toArray, List.set_cons_zero, List.set_cons_succ])
          refine wpAnyH_ready (rs := [6]) (by kernel_rfl) (by simp) ?_
          refine AllReadyH.cons rfl (fun K hK => ?_) AllReadyH.nil
          go_simp
          refine (HMO.out _).mono ?_
          rintro e w' ⟨rfl, rfl⟩
          refine hK.out _ _ hHeld (fun hHeld => ?_)
          clear hK K
          (try simp only [Act.put, List.getElem_toArray, List.getElem_cons_zero, List.getElem_cons_succ, List.setIfInBounds_toArray, List.set_cons_zero, List.set_cons_succ])
          refine' wpAnyH_take (i := 9) (v := _) rfl (by kernel_rfl) (by kernel_rfl) (by kernel_rfl) (fun _ _ _ h => h) (Or.inl ⟨by rfl, ?hy8⟩) (by assumption) ?rest8
          case hy8 =>
            intro w h
            have p1 := h8b
            (try clear h)
            go_simp
            (try with_reducible rfl)
          (try simp only [Act.put, List.getElem_toArray, List.getElem_cons_zero, List.getElem_cons_succ, List.setIfInBounds_toArray, List.set_cons_zero, List.set_cons_succ])
          refine wpAnyH_ready (rs := [10]) (by kernel_rfl) (by simp) ?_
          refine AllReadyH.cons rfl (fun K hK => ?_) AllReadyH.nil
          have c1 := HCELL.out _ F2_M.out
          have f1 := rowFree (i := a * 8 + b) F2_M.out
          go_simp
          refine hK.out _ _ (grownSet hHeld _ _) (fun hHeld => ?_)
          clear hK K
          (try simp only [Act.put])
          refine wpAnyH_done (by kernel_rfl) ?_ _
          go_wp2_with fail
          go_roundw
          case rel => exact ⟨b + 1, by omega, by go_num, HSET.out _ F2_M.out, (heap_setCell_other _ ⟨gm, a * 8 + b, none⟩ (w.heap.size) _ NRM.out).trans F2_R.out, belows F2_B.out LM.out _⟩
          case measure => simp [intOf]; omega
        · obtain rfl : b = m := by omega
          go_wp2_with fail
          go_roundw
          case rel => exact ⟨a + 1, by omega, by go_num, by rw [← GP_row]; exact RM2.out, RR2.out, BR2.out⟩
          case measure => simp [intOf]; omega
    · obtain rfl : a = n := by omega
      rw [GP_end] at RM
      have IW := Lib.hid (infoGrA (GV a m M) a m)
      obtain ⟨W, hW⟩ : ∃ W, W = grA (GV a m M) a m := ⟨_, rfl⟩
      have SW := Lib.hid (grA_size (GV a m M) a m)
      have OW := Lib.hid (grA_one (GV a m M) a m)
      rw [← hW] at RM IW SW OW
      have HW := Lib.hid hW
      clear hW
      go_wp2_with (first
        | ((with_reducible refine at_op (Op.load 53 (.tmp 7)) ?_); refine wpList_load_part rfl 53 (.tmp 7) rfl gm 0 rfl W W 53 (0, 0) _ RM.out (Part.self _) Try.underlying53 rfl IW.out ?_)
        | ((with_reducible refine at_op (Op.store 53 (.tmp 6) (.tmp 42)) ?_); refine wpList_put_row rfl 53 (.tmp 6) (.tmp 42) rfl (w.heap.size) W rfl rfl 53 (grA G0 0 0) RR.out 66 infoGr SW.out (grA_size _ _ _) OW.out w.heap.size w BR.out (Nat.le_refl _) ?_; intro w11 hr hs hb; have R11_r := Lib.hid hr; have B11 := Lib.hid hb; clear hr hs hb))
      refine bodyPost_ret (v := .agg W) ?_ rfl ⟨by rw [HW.out], B11.out⟩
      exact results_cell_row Try.results48 _ _ (w.heap.size) 53 W (0, 0) _ rfl R11_r.out Try.underlying53 rfl IW.out

set_option maxRecDepth 100000 in
set_option maxHeartbeats 4000000 in
theorem gridWith_matrix (n m : Nat) (F : Nat → Nat → Int) (hn : 1 ≤ n ∧ n ≤ 8) (hm : 1 ≤ m ∧ m ≤ 8) (hF : ∀ i j, i < n → j < m → -1000000 ≤ F i j ∧ F i j ≤ 1000000) (p0 : Value) (w : World)
    (hat : ∀ w', Below w.heap.size w w' → ∀ i j : Nat, i < n → j < m → Calls Try.prog 60 #[.int .i64 i, .int .i64 j, p0] w' (Ret w' (.int .i64 (F i j)))) :
    Calls Try.prog 48 #[.int .i64 n, .int .i64 m, .func (.func 60) #[] #[p0]] w (Ret w (.agg (grA (GV n m (fun i j => F i j % 4)) n m))) := by
  have H1 := Lib.hid (isSide_any n)
  have H2 := Lib.hid (isSide_any m)
  rw [show sideB n = true from decide_eq_true hn] at H1
  rw [show sideB m = true from decide_eq_true hm] at H2
  have ZZ := Lib.hid zeroGr
  have HBU := Lib.hid (builtGr n m)
  have B0 := Lib.hid (Below.refl w.heap.size w)
  have HAT := Lib.hid hat
  have HFB := Lib.hid hF
  obtain ⟨M, hM⟩ : ∃ M : Nat → Nat → Int, M = fun i j => F i j % 4 := ⟨_, rfl⟩
  have HMF := Lib.hid (fun (i j : Nat) => show M i j = F i j % 4 by rw [hM])
  rw [← hM]
  obtain ⟨n1, n8⟩ := hn
  obtain ⟨m1, m8⟩ := hm
  clear hM hat hF
  go_enter Try.func48, Try.ntmps48
  go_wp2_with ((with_reducible refine at_op (d := some 6) (Op.alloc 53) ?_); refine wpList_alloc_row rfl 53 rfl (grA G0 0 0) (fun w => ZZ.out w) ?_; intro w1 hr hb hz; have R1_r := Lib.hid hr; have B1 := Lib.hid (joins B0.out hb); clear hr hb hz)
  refine (H1.out _).mono ?_
  rintro e w2 ⟨rfl, rfl⟩
  go_wp2_with fail
  refine (H2.out _).mono ?_
  rintro e w2 ⟨rfl, rfl⟩
  go_wp2_with (first
    | ((with_reducible refine at_op (Op.build 53 #[(1, .tmp 19), (2, .tmp 20)]) ?_); refine wpList_build_row rfl 53 [(1, .tmp 19), (2, .tmp 20)] rfl (grA G0 n m) HBU.out ?_)
    | ((with_reducible refine at_op (d := some 7) (Op.alloc 53) ?_); refine wpList_alloc_row rfl 53 rfl (grA G0 0 0) (fun w => ZZ.out w) ?_; intro w3 hr hb hz; have N3_r_m := Lib.hid (Nat.ne_of_lt (row_lt R1_r.out)); have R3_r := Lib.hid (rowB R1_r.out hb); have R3_m := Lib.hid hr; have B3 := Lib.hid (joins B1.out hb); have L3_m := Lib.hid B1.out.size; clear hr hb hz)
    | ((with_reducible refine at_op (Op.store 53 (.tmp 7) (.tmp 21)) ?_); refine wpList_put_row rfl 53 (.tmp 7) (.tmp 21) rfl _ (grA G0 n m) rfl rfl 53 (grA G0 0 0) R3_m.out 66 infoGr (grA_size _ _ _) (grA_size _ _ _) (grA_one _ _ _) w.heap.size w B3.out L3_m.out ?_; intro w4 hr hs hb; have R4_r := Lib.hid (hs.row R3_r.out N3_r_m.out); have R4_m := Lib.hid hr; have B4 := Lib.hid hb; clear hr hs hb))
  have LM := Lib.hid L3_m.out
  have NRM := Lib.hid N3_r_m.out
  have RM0 := Lib.hid R4_m.out
  have RR0 := Lib.hid R4_r.out
  have BB0 := Lib.hid B4.out
  clear R1_r B1 R3_r R3_m B3 L3_m N3_r_m R4_r R4_m B4
  obtain ⟨gm, hgm⟩ : ∃ g, g = w1.heap.size := ⟨_, rfl⟩
  rw [← hgm] at LM NRM RM0 ⊢
  clear hgm
  go_loopw [23] (fun q wr => ∃ a : Nat, a ≤ n ∧ q = .int .i64 a ∧ wr.heap[gm]? = some (.cells (grA (GP n m a 0 M) n m) 53 (0, 0)) ∧ wr.heap[w.heap.size]? = some (.cells (grA G0 0 0) 53 (0, 0)) ∧ Below w.heap.size w wr) (fun q _ => n - (intOf q).toNat)
  case atStart => exact ⟨0, Nat.zero_le _, rfl, by rw [GP_start]; exact RM0.out, RR0.out, BB0.out⟩
  case round =>
    obtain ⟨a, ha, rfl, hm, hr, hbel⟩ := hrel
    obtain ⟨wo, hwo⟩ : ∃ wo, wo = wr := ⟨_, rfl⟩
    rw [← hwo] at hm hr hbel ⊢
    clear hwo
    have RM := Lib.hid hm
    have RR := Lib.hid hr
    have BR := Lib.hid hbel
    clear hm hr hbel
    by_cases hlt : a < n
    · have h0 : (0 : Int) ≤ (a : Int) := by omega
      have h1 : (a : Int) < (n : Int) := by omega
      go_wp2_with fail
      go_loopw [27] (fun q wr => ∃ b : Nat, b ≤ m ∧ q = .int .i64 b ∧ wr.heap[gm]? = some (.cells (grA (GP n m a b M) n m) 53 (0, 0)) ∧ wr.heap[w.heap.size]? = some (.cells (grA G0 0 0) 53 (0, 0)) ∧ Below w.heap.size w wr) (fun q _ => m - (intOf q).toNat)
      case atStart => exact ⟨0, Nat.zero_le _, rfl, RM.out, RR.out, BR.out⟩
      case round =>
        obtain ⟨b, hb, rfl, hm, hr, hbel⟩ := hrel
        obtain ⟨wx, hwx⟩ : ∃ wo, wo = wr := ⟨_, rfl⟩
        rw [← hwx] at hm hr hbel ⊢
        clear hwx
        have RM2 := Lib.hid hm
        have RR2 := Lib.hid hr
        have BR2 := Lib.hid hbel
        clear hm hr hbel
        by_cases hlb : b < m
        · have h0b : (0 : Int) ≤ (b : Int) := by omega
          have h1b : (b : Int) < (m : Int) := by omega
          have h8a : (a : Int) < 8 := by omega
          have h8b : (b : Int) < 8 := by omega
          have hfb := HFB.out a b hlt hlb
          have HATk := Lib.hid (fun w' (h : Below w.heap.size w w') => HAT.out w' h a b hlt hlb)
          have HCELL := Lib.hid (fun (w' : World) (h : w'.heap[gm]? = some (.cells (grA (GP n m a b M) n m) 53 (0, 0))) => rowC h (grA_get (GP n m a b M) n m (a * 8 + b) (by omega)))
          have hset := fun (w' : World) (h : w'.heap[gm]? = some (.cells (grA (GP n m a b M) n m) 53 (0, 0))) => heap_setCell_same w' gm (a * 8 + b) _ _ (.int .i64 (M a b)) h
          simp only [grA_set (GP n m a b M) n m (a * 8 + b) (by omega), GP_step n m a b M m8 hlt hlb] at hset
          have hmf := HMF.out a b
          rw [hmf] at hset
          obtain ⟨x, hx⟩ : ∃ x, x = F a b := ⟨_, rfl⟩
          rw [← hx] at hset hfb HATk
          have HSET := Lib.hid hset
          obtain ⟨hx1, hx2⟩ := hfb
          have HMO := Lib.hid (modulo_any x 4 (by omega) (by omega) (by omega) (by omega))
          clear hset hmf hx
          go_wp2_with fail
          refine wp_region_held_drew (S := (fun w' => World.grownBy wx w' (some (gm)))) (by kernel_rfl) (grownDrew (World.grownBy.refl _ _)) ?_
          obtain ⟨d1, hdw⟩ : ∃ w', w' = wx.drew := ⟨_, rfl⟩
          rw [← hdw]
          have hb : Below wx.heap.size wx d1 := by rw [hdw]; exact belowN (Below.refl _ _) 1
          have F1_M := Lib.hid (rowB RM2.out hb)
          have F1_R := Lib.hid (rowB RR2.out hb)
          have F1_B := Lib.hid (joins BR2.out hb)
          clear hdw hb
          intro hHeld
          refine' wpAnyH_take (i := 0) (v := _) rfl (by kernel_rfl) (by kernel_rfl) (by kernel_rfl) (fun _ _ _ h => h) (Or.inl ⟨by rfl, ?hy1001⟩) (by assumption) ?rest1001
          case hy1001 =>
            intro w h
            (try clear h)
            go_simp
            (try with_reducible rfl)
          (try simp only [Act.put, List.getElem_toArray, List.getElem_cons_zero, List.setIfInBounds_toArray, List.set_cons_zero, List.set_cons_succ])
          refine' wpAnyH_take (i := 1) (v := _) rfl (by kernel_rfl) (by kernel_rfl) (by kernel_rfl) (fun _ _ _ h => h) (Or.inl ⟨by rfl, ?hy1002⟩) (by assumption) ?rest1002
          case hy1002 =>
            intro w h
            (try clear h)
            go_simp
            (try with_reducible rfl)
          (try simp only [Act.put, List.getElem_toArray, List.getElem_cons_zero, List.getElem_cons_succ, List.setIfInBounds_toArray, List.set_cons_zero, List.set_cons_succ])
          refine' wpAnyH_take (i := 2) (v := _) rfl (by kernel_rfl) (by kernel_rfl) (by kernel_rfl) (fun _ _ _ h => h) (Or.inl ⟨by rfl, ?hy1003⟩) (by assumption) ?rest1003
          case hy1003 =>
            intro w h
            (try clear h)
            go_simp
            (try with_reducible rfl)
          (try simp only [Act.put, List.getElem_toArray, List.getElem_cons_zero, List.getElem_cons_succ, List.setIfInBounds_toArray, List.set_cons_zero, List.set_cons_succ])
          refine' wpAnyH_take (i := 3) (v := _) rfl (by kernel_rfl) (by kernel_rfl) (by kernel_rfl) (fun _ _ _ h => h) (Or.inl ⟨by rfl, ?hy1004⟩) (by assumption) ?rest1004
          case hy1004 =>
            intro w h
            (try clear h)
            go_simp
            (try with_reducible rfl)
          (try simp only [Act.put, List.getElem_toArray, List.getElem_cons_zero, List.getElem_cons_succ, List.setIfInBounds_toArray, List.set_cons_zero, List.set_cons_succ])
          refine' wpAnyH_take (i := 4) (v := _) rfl (by kernel_rfl) (by kernel_rfl) (by kernel_rfl) (fun _ _ _ h => h) (Or.inl ⟨by rfl, ?hy1005⟩) (by assumption) ?rest1005
          case hy1005 =>
            intro w h
            (try clear h)
            go_simp
            (try with_reducible rfl)
          (try simp only [Act.put, List.getElem_toArray, List.getElem_cons_zero, List.getElem_cons_succ, List.setIfInBounds_toArray, List.set_cons_zero, List.set_cons_succ])
          refine' wpAnyH_take (i := 7) (v := _) rfl (by kernel_rfl) (by kernel_rfl) (by kernel_rfl) (fun _ _ _ h => h) (Or.inl ⟨by rfl, ?hy1006⟩) (by assumption) ?rest1006
          case hy1006 =>
            intro w h
            (try clear h)
            go_simp
            (try with_reducible rfl)
          (try simp only [Act.put, List.getElem_toArray, List.getElem_cons_zero, List.getElem_cons_succ, List.setIfInBounds_toArray, List.set_cons_zero, List.set_cons_succ])
          refine' wpAnyH_take (i := 8) (v := _) rfl (by kernel_rfl) (by kernel_rfl) (by kernel_rfl) (fun _ _ _ h => h) (Or.inl ⟨by rfl, ?hy1007⟩) (by assumption) ?rest1007
          case hy1007 =>
            intro w h
            have p1 := h8a
            (try clear h)
            go_simp
            (try with_reducible rfl)
          (try simp only [Act.put, List.getElem_toArray, List.getElem_cons_zero, List.getElem_cons_succ, List.setIfInBounds_toArray, List.set_cons_zero, List.set_cons_succ])
          refine wpAnyH_ready (rs := [5]) (by kernel_rfl) (by simp) ?_
          refine AllReadyH.cons rfl (fun K hK => ?_) AllReadyH.nil
          go_simp
          refine (HATk.out _ F1_B.out).mono ?_
          rintro e d2 ⟨rfl, hb⟩
          have F2_M := Lib.hid (rowB F1_M.out hb)
          have F2_R := Lib.hid (rowB F1_R.out hb)
          have F2_B := Lib.hid (joins F1_B.out hb)
          have hHeld := grownB hHeld hb
          clear hb
          refine hK.out _ _ hHeld (fun hHeld => ?_)
          clear hK K
          (try simp only [Act.put, List.getElem_toArray, List.getElem_cons_zero, List.getElem_cons_succ, List.setIfInBounds_toArray, List.set_cons_zero, List.set_cons_succ])
          refine wpAnyH_ready (rs := [6]) (by kernel_rfl) (by simp) ?_
          refine AllReadyH.cons rfl (fun K hK => ?_) AllReadyH.nil
          go_simp
          refine (HMO.out _).mono ?_
          rintro e w' ⟨rfl, rfl⟩
          refine hK.out _ _ hHeld (fun hHeld => ?_)
          clear hK K
          (try simp only [Act.put, List.getElem_toArray, List.getElem_cons_zero, List.getElem_cons_succ, List.setIfInBounds_toArray, List.set_cons_zero, List.set_cons_succ])
          refine' wpAnyH_take (i := 9) (v := _) rfl (by kernel_rfl) (by kernel_rfl) (by kernel_rfl) (fun _ _ _ h => h) (Or.inl ⟨by rfl, ?hy1008⟩) (by assumption) ?rest1008
          case hy1008 =>
            intro w h
            have p1 := h8b
            (try clear h)
            go_simp
            (try with_reducible rfl)
          (try simp only [Act.put, List.getElem_toArray, List.getElem_cons_zero, List.getElem_cons_succ, List.setIfInBounds_toArray, List.set_cons_zero, List.set_cons_succ])
          refine wpAnyH_ready (rs := [10]) (by kernel_rfl) (by simp) ?_
          refine AllReadyH.cons rfl (fun K hK => ?_) AllReadyH.nil
          have c1 := HCELL.out _ F2_M.out
          have f1 := rowFree (i := a * 8 + b) F2_M.out
          go_simp
          refine hK.out _ _ (grownSet hHeld _ _) (fun hHeld => ?_)
          clear hK K
          (try simp only [Act.put])
          refine wpAnyH_done (by kernel_rfl) ?_ _
          go_wp2_with fail
          go_roundw
          case rel => exact ⟨b + 1, by omega, by go_num, HSET.out _ F2_M.out, (heap_setCell_other _ ⟨gm, a * 8 + b, none⟩ (w.heap.size) _ NRM.out).trans F2_R.out, belows F2_B.out LM.out _⟩
          case measure => simp [intOf]; omega
        · obtain rfl : b = m := by omega
          go_wp2_with fail
          go_roundw
          case rel => exact ⟨a + 1, by omega, by go_num, by rw [← GP_row]; exact RM2.out, RR2.out, BR2.out⟩
          case measure => simp [intOf]; omega
    · obtain rfl : a = n := by omega
      rw [GP_end] at RM
      have IW := Lib.hid (infoGrA (GV a m M) a m)
      obtain ⟨W, hW⟩ : ∃ W, W = grA (GV a m M) a m := ⟨_, rfl⟩
      have SW := Lib.hid (grA_size (GV a m M) a m)
      have OW := Lib.hid (grA_one (GV a m M) a m)
      rw [← hW] at RM IW SW OW
      have HW := Lib.hid hW
      clear hW
      go_wp2_with (first
        | ((with_reducible refine at_op (Op.load 53 (.tmp 7)) ?_); refine wpList_load_part rfl 53 (.tmp 7) rfl gm 0 rfl W W 53 (0, 0) _ RM.out (Part.self _) Try.underlying53 rfl IW.out ?_)
        | ((with_reducible refine at_op (Op.store 53 (.tmp 6) (.tmp 42)) ?_); refine wpList_put_row rfl 53 (.tmp 6) (.tmp 42) rfl (w.heap.size) W rfl rfl 53 (grA G0 0 0) RR.out 66 infoGr SW.out (grA_size _ _ _) OW.out w.heap.size w BR.out (Nat.le_refl _) ?_; intro w11 hr hs hb; have R11_r := Lib.hid hr; have B11 := Lib.hid hb; clear hr hs hb))
      refine bodyPost_ret (v := .agg W) ?_ rfl ⟨by rw [HW.out], B11.out⟩
      exact results_cell_row Try.results48 _ _ (w.heap.size) 53 W (0, 0) _ rfl R11_r.out Try.underlying53 rfl IW.out

set_option maxRecDepth 100000 in
set_option maxHeartbeats 4000000 in
theorem gridWith_shifted (n m : Nat) (F : Nat → Nat → Int) (hn : 1 ≤ n ∧ n ≤ 8) (hm : 1 ≤ m ∧ m ≤ 8) (hF : ∀ i j, i < n → j < m → -1000000 ≤ F i j ∧ F i j ≤ 1000000) (p0 p1 p2 : Value) (w : World)
    (hat : ∀ w', Below w.heap.size w w' → ∀ i j : Nat, i < n → j < m → Calls Try.prog 78 #[.int .i64 i, .int .i64 j, p0, p1, p2] w' (Ret w' (.int .i64 (F i j)))) :
    Calls Try.prog 48 #[.int .i64 n, .int .i64 m, .func (.func 78) #[] #[p0, p1, p2]] w (Ret w (.agg (grA (GV n m (fun i j => F i j % 4)) n m))) := by
  have H1 := Lib.hid (isSide_any n)
  have H2 := Lib.hid (isSide_any m)
  rw [show sideB n = true from decide_eq_true hn] at H1
  rw [show sideB m = true from decide_eq_true hm] at H2
  have ZZ := Lib.hid zeroGr
  have HBU := Lib.hid (builtGr n m)
  have B0 := Lib.hid (Below.refl w.heap.size w)
  have HAT := Lib.hid hat
  have HFB := Lib.hid hF
  obtain ⟨M, hM⟩ : ∃ M : Nat → Nat → Int, M = fun i j => F i j % 4 := ⟨_, rfl⟩
  have HMF := Lib.hid (fun (i j : Nat) => show M i j = F i j % 4 by rw [hM])
  rw [← hM]
  obtain ⟨n1, n8⟩ := hn
  obtain ⟨m1, m8⟩ := hm
  clear hM hat hF
  go_enter Try.func48, Try.ntmps48
  go_wp2_with ((with_reducible refine at_op (d := some 6) (Op.alloc 53) ?_); refine wpList_alloc_row rfl 53 rfl (grA G0 0 0) (fun w => ZZ.out w) ?_; intro w1 hr hb hz; have R1_r := Lib.hid hr; have B1 := Lib.hid (joins B0.out hb); clear hr hb hz)
  refine (H1.out _).mono ?_
  rintro e w2 ⟨rfl, rfl⟩
  go_wp2_with fail
  refine (H2.out _).mono ?_
  rintro e w2 ⟨rfl, rfl⟩
  go_wp2_with (first
    | ((with_reducible refine at_op (Op.build 53 #[(1, .tmp 19), (2, .tmp 20)]) ?_); refine wpList_build_row rfl 53 [(1, .tmp 19), (2, .tmp 20)] rfl (grA G0 n m) HBU.out ?_)
    | ((with_reducible refine at_op (d := some 7) (Op.alloc 53) ?_); refine wpList_alloc_row rfl 53 rfl (grA G0 0 0) (fun w => ZZ.out w) ?_; intro w3 hr hb hz; have N3_r_m := Lib.hid (Nat.ne_of_lt (row_lt R1_r.out)); have R3_r := Lib.hid (rowB R1_r.out hb); have R3_m := Lib.hid hr; have B3 := Lib.hid (joins B1.out hb); have L3_m := Lib.hid B1.out.size; clear hr hb hz)
    | ((with_reducible refine at_op (Op.store 53 (.tmp 7) (.tmp 21)) ?_); refine wpList_put_row rfl 53 (.tmp 7) (.tmp 21) rfl _ (grA G0 n m) rfl rfl 53 (grA G0 0 0) R3_m.out 66 infoGr (grA_size _ _ _) (grA_size _ _ _) (grA_one _ _ _) w.heap.size w B3.out L3_m.out ?_; intro w4 hr hs hb; have R4_r := Lib.hid (hs.row R3_r.out N3_r_m.out); have R4_m := Lib.hid hr; have B4 := Lib.hid hb; clear hr hs hb))
  have LM := Lib.hid L3_m.out
  have NRM := Lib.hid N3_r_m.out
  have RM0 := Lib.hid R4_m.out
  have RR0 := Lib.hid R4_r.out
  have BB0 := Lib.hid B4.out
  clear R1_r B1 R3_r R3_m B3 L3_m N3_r_m R4_r R4_m B4
  obtain ⟨gm, hgm⟩ : ∃ g, g = w1.heap.size := ⟨_, rfl⟩
  rw [← hgm] at LM NRM RM0 ⊢
  clear hgm
  go_loopw [23] (fun q wr => ∃ a : Nat, a ≤ n ∧ q = .int .i64 a ∧ wr.heap[gm]? = some (.cells (grA (GP n m a 0 M) n m) 53 (0, 0)) ∧ wr.heap[w.heap.size]? = some (.cells (grA G0 0 0) 53 (0, 0)) ∧ Below w.heap.size w wr) (fun q _ => n - (intOf q).toNat)
  case atStart => exact ⟨0, Nat.zero_le _, rfl, by rw [GP_start]; exact RM0.out, RR0.out, BB0.out⟩
  case round =>
    obtain ⟨a, ha, rfl, hm, hr, hbel⟩ := hrel
    obtain ⟨wo, hwo⟩ : ∃ wo, wo = wr := ⟨_, rfl⟩
    rw [← hwo] at hm hr hbel ⊢
    clear hwo
    have RM := Lib.hid hm
    have RR := Lib.hid hr
    have BR := Lib.hid hbel
    clear hm hr hbel
    by_cases hlt : a < n
    · have h0 : (0 : Int) ≤ (a : Int) := by omega
      have h1 : (a : Int) < (n : Int) := by omega
      go_wp2_with fail
      go_loopw [27] (fun q wr => ∃ b : Nat, b ≤ m ∧ q = .int .i64 b ∧ wr.heap[gm]? = some (.cells (grA (GP n m a b M) n m) 53 (0, 0)) ∧ wr.heap[w.heap.size]? = some (.cells (grA G0 0 0) 53 (0, 0)) ∧ Below w.heap.size w wr) (fun q _ => m - (intOf q).toNat)
      case atStart => exact ⟨0, Nat.zero_le _, rfl, RM.out, RR.out, BR.out⟩
      case round =>
        obtain ⟨b, hb, rfl, hm, hr, hbel⟩ := hrel
        obtain ⟨wx, hwx⟩ : ∃ wo, wo = wr := ⟨_, rfl⟩
        rw [← hwx] at hm hr hbel ⊢
        clear hwx
        have RM2 := Lib.hid hm
        have RR2 := Lib.hid hr
        have BR2 := Lib.hid hbel
        clear hm hr hbel
        by_cases hlb : b < m
        · have h0b : (0 : Int) ≤ (b : Int) := by omega
          have h1b : (b : Int) < (m : Int) := by omega
          have h8a : (a : Int) < 8 := by omega
          have h8b : (b : Int) < 8 := by omega
          have hfb := HFB.out a b hlt hlb
          have HATk := Lib.hid (fun w' (h : Below w.heap.size w w') => HAT.out w' h a b hlt hlb)
          have HCELL := Lib.hid (fun (w' : World) (h : w'.heap[gm]? = some (.cells (grA (GP n m a b M) n m) 53 (0, 0))) => rowC h (grA_get (GP n m a b M) n m (a * 8 + b) (by omega)))
          have hset := fun (w' : World) (h : w'.heap[gm]? = some (.cells (grA (GP n m a b M) n m) 53 (0, 0))) => heap_setCell_same w' gm (a * 8 + b) _ _ (.int .i64 (M a b)) h
          simp only [grA_set (GP n m a b M) n m (a * 8 + b) (by omega), GP_step n m a b M m8 hlt hlb] at hset
          have hmf := HMF.out a b
          rw [hmf] at hset
          obtain ⟨x, hx⟩ : ∃ x, x = F a b := ⟨_, rfl⟩
          rw [← hx] at hset hfb HATk
          have HSET := Lib.hid hset
          obtain ⟨hx1, hx2⟩ := hfb
          have HMO := Lib.hid (modulo_any x 4 (by omega) (by omega) (by omega) (by omega))
          clear hset hmf hx
          go_wp2_with fail
          refine wp_region_held_drew (S := (fun w' => World.grownBy wx w' (some (gm)))) (by kernel_rfl) (grownDrew (World.grownBy.refl _ _)) ?_
          obtain ⟨d1, hdw⟩ : ∃ w', w' = wx.drew := ⟨_, rfl⟩
          rw [← hdw]
          have hb : Below wx.heap.size wx d1 := by rw [hdw]; exact belowN (Below.refl _ _) 1
          have F1_M := Lib.hid (rowB RM2.out hb)
          have F1_R := Lib.hid (rowB RR2.out hb)
          have F1_B := Lib.hid (joins BR2.out hb)
          clear hdw hb
          intro hHeld
          refine' wpAnyH_take (i := 0) (v := _) rfl (by kernel_rfl) (by kernel_rfl) (by kernel_rfl) (fun _ _ _ h => h) (Or.inl ⟨by rfl, ?hy2001⟩) (by assumption) ?rest2001
          case hy2001 =>
            intro w h
            (try clear h)
            go_simp
            (try with_reducible rfl)
          (try simp only [Act.put, List.getElem_toArray, List.getElem_cons_zero, List.setIfInBounds_toArray, List.set_cons_zero, List.set_cons_succ])
          refine' wpAnyH_take (i := 1) (v := _) rfl (by kernel_rfl) (by kernel_rfl) (by kernel_rfl) (fun _ _ _ h => h) (Or.inl ⟨by rfl, ?hy2002⟩) (by assumption) ?rest2002
          case hy2002 =>
            intro w h
            (try clear h)
            go_simp
            (try with_reducible rfl)
          (try simp only [Act.put, List.getElem_toArray, List.getElem_cons_zero, List.getElem_cons_succ, List.setIfInBounds_toArray, List.set_cons_zero, List.set_cons_succ])
          refine' wpAnyH_take (i := 2) (v := _) rfl (by kernel_rfl) (by kernel_rfl) (by kernel_rfl) (fun _ _ _ h => h) (Or.inl ⟨by rfl, ?hy2003⟩) (by assumption) ?rest2003
          case hy2003 =>
            intro w h
            (try clear h)
            go_simp
            (try with_reducible rfl)
          (try simp only [Act.put, List.getElem_toArray, List.getElem_cons_zero, List.getElem_cons_succ, List.setIfInBounds_toArray, List.set_cons_zero, List.set_cons_succ])
          refine' wpAnyH_take (i := 3) (v := _) rfl (by kernel_rfl) (by kernel_rfl) (by kernel_rfl) (fun _ _ _ h => h) (Or.inl ⟨by rfl, ?hy2004⟩) (by assumption) ?rest2004
          case hy2004 =>
            intro w h
            (try clear h)
            go_simp
            (try with_reducible rfl)
          (try simp only [Act.put, List.getElem_toArray, List.getElem_cons_zero, List.getElem_cons_succ, List.setIfInBounds_toArray, List.set_cons_zero, List.set_cons_succ])
          refine' wpAnyH_take (i := 4) (v := _) rfl (by kernel_rfl) (by kernel_rfl) (by kernel_rfl) (fun _ _ _ h => h) (Or.inl ⟨by rfl, ?hy2005⟩) (by assumption) ?rest2005
          case hy2005 =>
            intro w h
            (try clear h)
            go_simp
            (try with_reducible rfl)
          (try simp only [Act.put, List.getElem_toArray, List.getElem_cons_zero, List.getElem_cons_succ, List.setIfInBounds_toArray, List.set_cons_zero, List.set_cons_succ])
          refine' wpAnyH_take (i := 7) (v := _) rfl (by kernel_rfl) (by kernel_rfl) (by kernel_rfl) (fun _ _ _ h => h) (Or.inl ⟨by rfl, ?hy2006⟩) (by assumption) ?rest2006
          case hy2006 =>
            intro w h
            (try clear h)
            go_simp
            (try with_reducible rfl)
          (try simp only [Act.put, List.getElem_toArray, List.getElem_cons_zero, List.getElem_cons_succ, List.setIfInBounds_toArray, List.set_cons_zero, List.set_cons_succ])
          refine' wpAnyH_take (i := 8) (v := _) rfl (by kernel_rfl) (by kernel_rfl) (by kernel_rfl) (fun _ _ _ h => h) (Or.inl ⟨by rfl, ?hy2007⟩) (by assumption) ?rest2007
          case hy2007 =>
            intro w h
            have p1 := h8a
            (try clear h)
            go_simp
            (try with_reducible rfl)
          (try simp only [Act.put, List.getElem_toArray, List.getElem_cons_zero, List.getElem_cons_succ, List.setIfInBounds_toArray, List.set_cons_zero, List.set_cons_succ])
          refine wpAnyH_ready (rs := [5]) (by kernel_rfl) (by simp) ?_
          refine AllReadyH.cons rfl (fun K hK => ?_) AllReadyH.nil
          go_simp
          refine (HATk.out _ F1_B.out).mono ?_
          rintro e d2 ⟨rfl, hb⟩
          have F2_M := Lib.hid (rowB F1_M.out hb)
          have F2_R := Lib.hid (rowB F1_R.out hb)
          have F2_B := Lib.hid (joins F1_B.out hb)
          have hHeld := grownB hHeld hb
          clear hb
          refine hK.out _ _ hHeld (fun hHeld => ?_)
          clear hK K
          (try simp only [Act.put, List.getElem_toArray, List.getElem_cons_zero, List.getElem_cons_succ, List.setIfInBounds_toArray, List.set_cons_zero, List.set_cons_succ])
          refine wpAnyH_ready (rs := [6]) (by kernel_rfl) (by simp) ?_
          refine AllReadyH.cons rfl (fun K hK => ?_) AllReadyH.nil
          go_simp
          refine (HMO.out _).mono ?_
          rintro e w' ⟨rfl, rfl⟩
          refine hK.out _ _ hHeld (fun hHeld => ?_)
          clear hK K
          (try simp only [Act.put, List.getElem_toArray, List.getElem_cons_zero, List.getElem_cons_succ, List.setIfInBounds_toArray, List.set_cons_zero, List.set_cons_succ])
          refine' wpAnyH_take (i := 9) (v := _) rfl (by kernel_rfl) (by kernel_rfl) (by kernel_rfl) (fun _ _ _ h => h) (Or.inl ⟨by rfl, ?hy2008⟩) (by assumption) ?rest2008
          case hy2008 =>
            intro w h
            have p1 := h8b
            (try clear h)
            go_simp
            (try with_reducible rfl)
          (try simp only [Act.put, List.getElem_toArray, List.getElem_cons_zero, List.getElem_cons_succ, List.setIfInBounds_toArray, List.set_cons_zero, List.set_cons_succ])
          refine wpAnyH_ready (rs := [10]) (by kernel_rfl) (by simp) ?_
          refine AllReadyH.cons rfl (fun K hK => ?_) AllReadyH.nil
          have c1 := HCELL.out _ F2_M.out
          have f1 := rowFree (i := a * 8 + b) F2_M.out
          go_simp
          refine hK.out _ _ (grownSet hHeld _ _) (fun hHeld => ?_)
          clear hK K
          (try simp only [Act.put])
          refine wpAnyH_done (by kernel_rfl) ?_ _
          go_wp2_with fail
          go_roundw
          case rel => exact ⟨b + 1, by omega, by go_num, HSET.out _ F2_M.out, (heap_setCell_other _ ⟨gm, a * 8 + b, none⟩ (w.heap.size) _ NRM.out).trans F2_R.out, belows F2_B.out LM.out _⟩
          case measure => simp [intOf]; omega
        · obtain rfl : b = m := by omega
          go_wp2_with fail
          go_roundw
          case rel => exact ⟨a + 1, by omega, by go_num, by rw [← GP_row]; exact RM2.out, RR2.out, BR2.out⟩
          case measure => simp [intOf]; omega
    · obtain rfl : a = n := by omega
      rw [GP_end] at RM
      have IW := Lib.hid (infoGrA (GV a m M) a m)
      obtain ⟨W, hW⟩ : ∃ W, W = grA (GV a m M) a m := ⟨_, rfl⟩
      have SW := Lib.hid (grA_size (GV a m M) a m)
      have OW := Lib.hid (grA_one (GV a m M) a m)
      rw [← hW] at RM IW SW OW
      have HW := Lib.hid hW
      clear hW
      go_wp2_with (first
        | ((with_reducible refine at_op (Op.load 53 (.tmp 7)) ?_); refine wpList_load_part rfl 53 (.tmp 7) rfl gm 0 rfl W W 53 (0, 0) _ RM.out (Part.self _) Try.underlying53 rfl IW.out ?_)
        | ((with_reducible refine at_op (Op.store 53 (.tmp 6) (.tmp 42)) ?_); refine wpList_put_row rfl 53 (.tmp 6) (.tmp 42) rfl (w.heap.size) W rfl rfl 53 (grA G0 0 0) RR.out 66 infoGr SW.out (grA_size _ _ _) OW.out w.heap.size w BR.out (Nat.le_refl _) ?_; intro w11 hr hs hb; have R11_r := Lib.hid hr; have B11 := Lib.hid hb; clear hr hs hb))
      refine bodyPost_ret (v := .agg W) ?_ rfl ⟨by rw [HW.out], B11.out⟩
      exact results_cell_row Try.results48 _ _ (w.heap.size) 53 W (0, 0) _ rfl R11_r.out Try.underlying53 rfl IW.out

set_option maxRecDepth 100000 in
set_option maxHeartbeats 4000000 in
theorem gridWith_perfect (n m : Nat) (F : Nat → Nat → Int) (hn : 1 ≤ n ∧ n ≤ 8) (hm : 1 ≤ m ∧ m ≤ 8) (hF : ∀ i j, i < n → j < m → -1000000 ≤ F i j ∧ F i j ≤ 1000000) (p0 p1 : Value) (w : World)
    (hat : ∀ w', Below w.heap.size w w' → ∀ i j : Nat, i < n → j < m → Calls Try.prog 77 #[.int .i64 i, .int .i64 j, p0, p1] w' (Ret w' (.int .i64 (F i j)))) :
    Calls Try.prog 48 #[.int .i64 n, .int .i64 m, .func (.func 77) #[] #[p0, p1]] w (Ret w (.agg (grA (GV n m (fun i j => F i j % 4)) n m))) := by
  have H1 := Lib.hid (isSide_any n)
  have H2 := Lib.hid (isSide_any m)
  rw [show sideB n = true from decide_eq_true hn] at H1
  rw [show sideB m = true from decide_eq_true hm] at H2
  have ZZ := Lib.hid zeroGr
  have HBU := Lib.hid (builtGr n m)
  have B0 := Lib.hid (Below.refl w.heap.size w)
  have HAT := Lib.hid hat
  have HFB := Lib.hid hF
  obtain ⟨M, hM⟩ : ∃ M : Nat → Nat → Int, M = fun i j => F i j % 4 := ⟨_, rfl⟩
  have HMF := Lib.hid (fun (i j : Nat) => show M i j = F i j % 4 by rw [hM])
  rw [← hM]
  obtain ⟨n1, n8⟩ := hn
  obtain ⟨m1, m8⟩ := hm
  clear hM hat hF
  go_enter Try.func48, Try.ntmps48
  go_wp2_with ((with_reducible refine at_op (d := some 6) (Op.alloc 53) ?_); refine wpList_alloc_row rfl 53 rfl (grA G0 0 0) (fun w => ZZ.out w) ?_; intro w1 hr hb hz; have R1_r := Lib.hid hr; have B1 := Lib.hid (joins B0.out hb); clear hr hb hz)
  refine (H1.out _).mono ?_
  rintro e w2 ⟨rfl, rfl⟩
  go_wp2_with fail
  refine (H2.out _).mono ?_
  rintro e w2 ⟨rfl, rfl⟩
  go_wp2_with (first
    | ((with_reducible refine at_op (Op.build 53 #[(1, .tmp 19), (2, .tmp 20)]) ?_); refine wpList_build_row rfl 53 [(1, .tmp 19), (2, .tmp 20)] rfl (grA G0 n m) HBU.out ?_)
    | ((with_reducible refine at_op (d := some 7) (Op.alloc 53) ?_); refine wpList_alloc_row rfl 53 rfl (grA G0 0 0) (fun w => ZZ.out w) ?_; intro w3 hr hb hz; have N3_r_m := Lib.hid (Nat.ne_of_lt (row_lt R1_r.out)); have R3_r := Lib.hid (rowB R1_r.out hb); have R3_m := Lib.hid hr; have B3 := Lib.hid (joins B1.out hb); have L3_m := Lib.hid B1.out.size; clear hr hb hz)
    | ((with_reducible refine at_op (Op.store 53 (.tmp 7) (.tmp 21)) ?_); refine wpList_put_row rfl 53 (.tmp 7) (.tmp 21) rfl _ (grA G0 n m) rfl rfl 53 (grA G0 0 0) R3_m.out 66 infoGr (grA_size _ _ _) (grA_size _ _ _) (grA_one _ _ _) w.heap.size w B3.out L3_m.out ?_; intro w4 hr hs hb; have R4_r := Lib.hid (hs.row R3_r.out N3_r_m.out); have R4_m := Lib.hid hr; have B4 := Lib.hid hb; clear hr hs hb))
  have LM := Lib.hid L3_m.out
  have NRM := Lib.hid N3_r_m.out
  have RM0 := Lib.hid R4_m.out
  have RR0 := Lib.hid R4_r.out
  have BB0 := Lib.hid B4.out
  clear R1_r B1 R3_r R3_m B3 L3_m N3_r_m R4_r R4_m B4
  obtain ⟨gm, hgm⟩ : ∃ g, g = w1.heap.size := ⟨_, rfl⟩
  rw [← hgm] at LM NRM RM0 ⊢
  clear hgm
  go_loopw [23] (fun q wr => ∃ a : Nat, a ≤ n ∧ q = .int .i64 a ∧ wr.heap[gm]? = some (.cells (grA (GP n m a 0 M) n m) 53 (0, 0)) ∧ wr.heap[w.heap.size]? = some (.cells (grA G0 0 0) 53 (0, 0)) ∧ Below w.heap.size w wr) (fun q _ => n - (intOf q).toNat)
  case atStart => exact ⟨0, Nat.zero_le _, rfl, by rw [GP_start]; exact RM0.out, RR0.out, BB0.out⟩
  case round =>
    obtain ⟨a, ha, rfl, hm, hr, hbel⟩ := hrel
    obtain ⟨wo, hwo⟩ : ∃ wo, wo = wr := ⟨_, rfl⟩
    rw [← hwo] at hm hr hbel ⊢
    clear hwo
    have RM := Lib.hid hm
    have RR := Lib.hid hr
    have BR := Lib.hid hbel
    clear hm hr hbel
    by_cases hlt : a < n
    · have h0 : (0 : Int) ≤ (a : Int) := by omega
      have h1 : (a : Int) < (n : Int) := by omega
      go_wp2_with fail
      go_loopw [27] (fun q wr => ∃ b : Nat, b ≤ m ∧ q = .int .i64 b ∧ wr.heap[gm]? = some (.cells (grA (GP n m a b M) n m) 53 (0, 0)) ∧ wr.heap[w.heap.size]? = some (.cells (grA G0 0 0) 53 (0, 0)) ∧ Below w.heap.size w wr) (fun q _ => m - (intOf q).toNat)
      case atStart => exact ⟨0, Nat.zero_le _, rfl, RM.out, RR.out, BR.out⟩
      case round =>
        obtain ⟨b, hb, rfl, hm, hr, hbel⟩ := hrel
        obtain ⟨wx, hwx⟩ : ∃ wo, wo = wr := ⟨_, rfl⟩
        rw [← hwx] at hm hr hbel ⊢
        clear hwx
        have RM2 := Lib.hid hm
        have RR2 := Lib.hid hr
        have BR2 := Lib.hid hbel
        clear hm hr hbel
        by_cases hlb : b < m
        · have h0b : (0 : Int) ≤ (b : Int) := by omega
          have h1b : (b : Int) < (m : Int) := by omega
          have h8a : (a : Int) < 8 := by omega
          have h8b : (b : Int) < 8 := by omega
          have hfb := HFB.out a b hlt hlb
          have HATk := Lib.hid (fun w' (h : Below w.heap.size w w') => HAT.out w' h a b hlt hlb)
          have HCELL := Lib.hid (fun (w' : World) (h : w'.heap[gm]? = some (.cells (grA (GP n m a b M) n m) 53 (0, 0))) => rowC h (grA_get (GP n m a b M) n m (a * 8 + b) (by omega)))
          have hset := fun (w' : World) (h : w'.heap[gm]? = some (.cells (grA (GP n m a b M) n m) 53 (0, 0))) => heap_setCell_same w' gm (a * 8 + b) _ _ (.int .i64 (M a b)) h
          simp only [grA_set (GP n m a b M) n m (a * 8 + b) (by omega), GP_step n m a b M m8 hlt hlb] at hset
          have hmf := HMF.out a b
          rw [hmf] at hset
          obtain ⟨x, hx⟩ : ∃ x, x = F a b := ⟨_, rfl⟩
          rw [← hx] at hset hfb HATk
          have HSET := Lib.hid hset
          obtain ⟨hx1, hx2⟩ := hfb
          have HMO := Lib.hid (modulo_any x 4 (by omega) (by omega) (by omega) (by omega))
          clear hset hmf hx
          go_wp2_with fail
          refine wp_region_held_drew (S := (fun w' => World.grownBy wx w' (some (gm)))) (by kernel_rfl) (grownDrew (World.grownBy.refl _ _)) ?_
          obtain ⟨d1, hdw⟩ : ∃ w', w' = wx.drew := ⟨_, rfl⟩
          rw [← hdw]
          have hb : Below wx.heap.size wx d1 := by rw [hdw]; exact belowN (Below.refl _ _) 1
          have F1_M := Lib.hid (rowB RM2.out hb)
          have F1_R := Lib.hid (rowB RR2.out hb)
          have F1_B := Lib.hid (joins BR2.out hb)
          clear hdw hb
          intro hHeld
          refine' wpAnyH_take (i := 0) (v := _) rfl (by kernel_rfl) (by kernel_rfl) (by kernel_rfl) (fun _ _ _ h => h) (Or.inl ⟨by rfl, ?hy3001⟩) (by assumption) ?rest3001
          case hy3001 =>
            intro w h
            (try clear h)
            go_simp
            (try with_reducible rfl)
          (try simp only [Act.put, List.getElem_toArray, List.getElem_cons_zero, List.setIfInBounds_toArray, List.set_cons_zero, List.set_cons_succ])
          refine' wpAnyH_take (i := 1) (v := _) rfl (by kernel_rfl) (by kernel_rfl) (by kernel_rfl) (fun _ _ _ h => h) (Or.inl ⟨by rfl, ?hy3002⟩) (by assumption) ?rest3002
          case hy3002 =>
            intro w h
            (try clear h)
            go_simp
            (try with_reducible rfl)
          (try simp only [Act.put, List.getElem_toArray, List.getElem_cons_zero, List.getElem_cons_succ, List.setIfInBounds_toArray, List.set_cons_zero, List.set_cons_succ])
          refine' wpAnyH_take (i := 2) (v := _) rfl (by kernel_rfl) (by kernel_rfl) (by kernel_rfl) (fun _ _ _ h => h) (Or.inl ⟨by rfl, ?hy3003⟩) (by assumption) ?rest3003
          case hy3003 =>
            intro w h
            (try clear h)
            go_simp
            (try with_reducible rfl)
          (try simp only [Act.put, List.getElem_toArray, List.getElem_cons_zero, List.getElem_cons_succ, List.setIfInBounds_toArray, List.set_cons_zero, List.set_cons_succ])
          refine' wpAnyH_take (i := 3) (v := _) rfl (by kernel_rfl) (by kernel_rfl) (by kernel_rfl) (fun _ _ _ h => h) (Or.inl ⟨by rfl, ?hy3004⟩) (by assumption) ?rest3004
          case hy3004 =>
            intro w h
            (try clear h)
            go_simp
            (try with_reducible rfl)
          (try simp only [Act.put, List.getElem_toArray, List.getElem_cons_zero, List.getElem_cons_succ, List.setIfInBounds_toArray, List.set_cons_zero, List.set_cons_succ])
          refine' wpAnyH_take (i := 4) (v := _) rfl (by kernel_rfl) (by kernel_rfl) (by kernel_rfl) (fun _ _ _ h => h) (Or.inl ⟨by rfl, ?hy3005⟩) (by assumption) ?rest3005
          case hy3005 =>
            intro w h
            (try clear h)
            go_simp
            (try with_reducible rfl)
          (try simp only [Act.put, List.getElem_toArray, List.getElem_cons_zero, List.getElem_cons_succ, List.setIfInBounds_toArray, List.set_cons_zero, List.set_cons_succ])
          refine' wpAnyH_take (i := 7) (v := _) rfl (by kernel_rfl) (by kernel_rfl) (by kernel_rfl) (fun _ _ _ h => h) (Or.inl ⟨by rfl, ?hy3006⟩) (by assumption) ?rest3006
          case hy3006 =>
            intro w h
            (try clear h)
            go_simp
            (try with_reducible rfl)
          (try simp only [Act.put, List.getElem_toArray, List.getElem_cons_zero, List.getElem_cons_succ, List.setIfInBounds_toArray, List.set_cons_zero, List.set_cons_succ])
          refine' wpAnyH_take (i := 8) (v := _) rfl (by kernel_rfl) (by kernel_rfl) (by kernel_rfl) (fun _ _ _ h => h) (Or.inl ⟨by rfl, ?hy3007⟩) (by assumption) ?rest3007
          case hy3007 =>
            intro w h
            have p1 := h8a
            (try clear h)
            go_simp
            (try with_reducible rfl)
          (try simp only [Act.put, List.getElem_toArray, List.getElem_cons_zero, List.getElem_cons_succ, List.setIfInBounds_toArray, List.set_cons_zero, List.set_cons_succ])
          refine wpAnyH_ready (rs := [5]) (by kernel_rfl) (by simp) ?_
          refine AllReadyH.cons rfl (fun K hK => ?_) AllReadyH.nil
          go_simp
          refine (HATk.out _ F1_B.out).mono ?_
          rintro e d2 ⟨rfl, hb⟩
          have F2_M := Lib.hid (rowB F1_M.out hb)
          have F2_R := Lib.hid (rowB F1_R.out hb)
          have F2_B := Lib.hid (joins F1_B.out hb)
          have hHeld := grownB hHeld hb
          clear hb
          refine hK.out _ _ hHeld (fun hHeld => ?_)
          clear hK K
          (try simp only [Act.put, List.getElem_toArray, List.getElem_cons_zero, List.getElem_cons_succ, List.setIfInBounds_toArray, List.set_cons_zero, List.set_cons_succ])
          refine wpAnyH_ready (rs := [6]) (by kernel_rfl) (by simp) ?_
          refine AllReadyH.cons rfl (fun K hK => ?_) AllReadyH.nil
          go_simp
          refine (HMO.out _).mono ?_
          rintro e w' ⟨rfl, rfl⟩
          refine hK.out _ _ hHeld (fun hHeld => ?_)
          clear hK K
          (try simp only [Act.put, List.getElem_toArray, List.getElem_cons_zero, List.getElem_cons_succ, List.setIfInBounds_toArray, List.set_cons_zero, List.set_cons_succ])
          refine' wpAnyH_take (i := 9) (v := _) rfl (by kernel_rfl) (by kernel_rfl) (by kernel_rfl) (fun _ _ _ h => h) (Or.inl ⟨by rfl, ?hy3008⟩) (by assumption) ?rest3008
          case hy3008 =>
            intro w h
            have p1 := h8b
            (try clear h)
            go_simp
            (try with_reducible rfl)
          (try simp only [Act.put, List.getElem_toArray, List.getElem_cons_zero, List.getElem_cons_succ, List.setIfInBounds_toArray, List.set_cons_zero, List.set_cons_succ])
          refine wpAnyH_ready (rs := [10]) (by kernel_rfl) (by simp) ?_
          refine AllReadyH.cons rfl (fun K hK => ?_) AllReadyH.nil
          have c1 := HCELL.out _ F2_M.out
          have f1 := rowFree (i := a * 8 + b) F2_M.out
          go_simp
          refine hK.out _ _ (grownSet hHeld _ _) (fun hHeld => ?_)
          clear hK K
          (try simp only [Act.put])
          refine wpAnyH_done (by kernel_rfl) ?_ _
          go_wp2_with fail
          go_roundw
          case rel => exact ⟨b + 1, by omega, by go_num, HSET.out _ F2_M.out, (heap_setCell_other _ ⟨gm, a * 8 + b, none⟩ (w.heap.size) _ NRM.out).trans F2_R.out, belows F2_B.out LM.out _⟩
          case measure => simp [intOf]; omega
        · obtain rfl : b = m := by omega
          go_wp2_with fail
          go_roundw
          case rel => exact ⟨a + 1, by omega, by go_num, by rw [← GP_row]; exact RM2.out, RR2.out, BR2.out⟩
          case measure => simp [intOf]; omega
    · obtain rfl : a = n := by omega
      rw [GP_end] at RM
      have IW := Lib.hid (infoGrA (GV a m M) a m)
      obtain ⟨W, hW⟩ : ∃ W, W = grA (GV a m M) a m := ⟨_, rfl⟩
      have SW := Lib.hid (grA_size (GV a m M) a m)
      have OW := Lib.hid (grA_one (GV a m M) a m)
      rw [← hW] at RM IW SW OW
      have HW := Lib.hid hW
      clear hW
      go_wp2_with (first
        | ((with_reducible refine at_op (Op.load 53 (.tmp 7)) ?_); refine wpList_load_part rfl 53 (.tmp 7) rfl gm 0 rfl W W 53 (0, 0) _ RM.out (Part.self _) Try.underlying53 rfl IW.out ?_)
        | ((with_reducible refine at_op (Op.store 53 (.tmp 6) (.tmp 42)) ?_); refine wpList_put_row rfl 53 (.tmp 6) (.tmp 42) rfl (w.heap.size) W rfl rfl 53 (grA G0 0 0) RR.out 66 infoGr SW.out (grA_size _ _ _) OW.out w.heap.size w BR.out (Nat.le_refl _) ?_; intro w11 hr hs hb; have R11_r := Lib.hid hr; have B11 := Lib.hid hb; clear hr hs hb))
      refine bodyPost_ret (v := .agg W) ?_ rfl ⟨by rw [HW.out], B11.out⟩
      exact results_cell_row Try.results48 _ _ (w.heap.size) 53 W (0, 0) _ rfl R11_r.out Try.underlying53 rfl IW.out
end Go.Proofs.Ytjoepdflbbcliab
