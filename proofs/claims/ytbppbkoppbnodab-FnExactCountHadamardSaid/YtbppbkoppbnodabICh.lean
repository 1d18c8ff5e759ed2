/- The program's rowWith, isOrthogonalAbove, hadamardsFrom, CountHadamard. -/
import Derived.Test.YtbppbkoppbnodabChM
import Derived.Test.YtbppbkoppbnodabIBar
import Derived.Test.YtbppbkoppbnodabMxP
import Derived.Test.YtbppbkoppbnodabIHd
namespace Go.Proofs.Ytbppbkoppbnodab
set_option maxRecDepth 100000
open Go.RowKit

def rwV (n r j : Nat) : Nat → Nat × Nat := fun c => if c < j then (f32of (vx (rwR n r c)), f32of (vy (rwR n r c))) else (0, 0)
theorem rwV_start (n r : Nat) : rwV n r 0 = V0 := by funext c; unfold rwV; rw [if_neg (by omega)]; rfl
theorem rwV_step (n r j : Nat) : up (rwV n r j) j (f32of (vx (rwR n r j)), f32of (vy (rwR n r j))) = rwV n r (j + 1) := by
  funext c; unfold up rwV
  by_cases e : c = j
  · subst e; rw [if_pos rfl, if_pos (by omega)]
  · rw [if_neg e]
    by_cases h : c < j
    · rw [if_pos h, if_pos (by omega)]
    · rw [if_neg h, if_neg (by omega)]
theorem rwR_ph (n r c : Nat) (h : c < n) : 0 ≤ rwR n r c ∧ rwR n r c ≤ 3 := lowD_ph _ _ _ h
theorem rw_RowR (n r : Nat) : RowR (rwV n r n) n (rwR n r) := fun j _ => by
  unfold rwV
  constructor
  · intro h; rw [if_pos h]; exact isV_of _ (rwR_ph n r j h).1 (rwR_ph n r j h).2
  · intro h; rw [if_neg (by omega)]
set_option maxRecDepth 100000 in
set_option maxHeartbeats 4000000 in
theorem rowWith_any (n : Nat) (hn : n ≤ 6) (r : Nat) (hr : r < 4 ^ n) (w : World) : Calls Try.prog 75 #[.int .i64 n, .int .i64 r] w (Ret w (.agg (rvC (rwV n r n) 8))) := by
  have HPW := Lib.hid (phasesWith_any n hn r hr)
  have hp32 : (padL (lowD (r : Int) n)).length = 32 := padL_length (by rw [lowD_length]; omega)
  have HDC := Lib.hid (fun i (hi : i < n) => show (phA (padL (lowD (r : Int) n)) n)[i]? = some (.int .i64 (rwR n r i)) by rw [phA_get _ _ i (by omega), pad_getD _ i (by rw [lowD_length]; exact hi)]; rfl)
  have SP := Lib.hid (phA_size (padL (lowD (r : Int) n)) (n : Int) hp32)
  have OP := Lib.hid (phA_one (padL (lowD (r : Int) n)) (n : Int))
  have HPH := Lib.hid (fun i hi => rwR_ph n r i hi)
  obtain ⟨P, hP⟩ : ∃ P, P = phA (padL (lowD (r : Int) n)) (n : Int) := ⟨_, rfl⟩
  rw [← hP] at HPW HDC SP OP
  have ZR := Lib.hid zeroRv
  have HST := Lib.hid (fun j => rwV_step n r j)
  clear hP hp32
  have B0 := Lib.hid (Below.refl w.heap.size w)
  go_enter Try.func75, Try.ntmps75
  go_wp2_with (first
    | ((with_reducible refine at_op (d := some 4) (Op.alloc 51) ?_); refine wpList_alloc_row rfl 51 rfl (rvC V0 8) (fun w => ZR.out w) ?_; intro w1 hr hb hz; have R1_r := Lib.hid hr; have B1 := Lib.hid (joins B0.out hb); have L1_r := Lib.hid (show w.heap.size ≤ w.heap.size from B0.out.size); clear hr hb hz)
    | ((with_reducible refine at_op (d := some 5) (Op.alloc 51) ?_); refine wpList_alloc_row rfl 51 rfl (rvC V0 8) (fun w => ZR.out w) ?_; intro w2 hr hb hz; have N2_r_o := Lib.hid (Nat.ne_of_lt (row_lt R1_r.out)); have N2_o_r := Lib.hid (Ne.symm N2_r_o.out); have R2_r := Lib.hid (rowB R1_r.out hb); have R2_o := Lib.hid hr; have B2 := Lib.hid (joins B1.out hb); have L2_o := Lib.hid (show w.heap.size ≤ w1.heap.size from B1.out.size); clear hr hb hz))
  refine (HPW.out _).mono ?_
  rintro e w3 ⟨rfl, hb⟩
  have R3_r := Lib.hid (rowB R2_r.out hb)
  have R3_o := Lib.hid (rowB R2_o.out hb)
  have B3 := Lib.hid (joins B2.out hb)
  clear hb
  go_wp2_with (first
    | ((with_reducible refine at_op (d := some 6) (Op.alloc 87) ?_); refine wpList_alloc_row rfl 87 rfl (phA z32 0) zeroPh ?_; intro w4 hr hb hz; have N4_r_p := Lib.hid (Nat.ne_of_lt (row_lt R3_r.out)); have N4_p_r := Lib.hid (Ne.symm N4_r_p.out); have N4_o_p := Lib.hid (Nat.ne_of_lt (row_lt R3_o.out)); have N4_p_o := Lib.hid (Ne.symm N4_o_p.out); have R4_r := Lib.hid (rowB R3_r.out hb); have R4_o := Lib.hid (rowB R3_o.out hb); have R4_p := Lib.hid hr; have B4 := Lib.hid (joins B3.out hb); have L4_p := Lib.hid (show w.heap.size ≤ w3.heap.size from B3.out.size); clear hr hb hz)
    | ((with_reducible refine at_op (Op.store 87 (.tmp 6) (.tmp 10)) ?_); refine wpList_put_row rfl 87 (.tmp 6) (.tmp 10) rfl (w3.heap.size) P rfl rfl 87 (phA z32 0) R4_p.out 33 infoPh SP.out (phA_size _ _ z32_length) OP.out w.heap.size w B4.out L4_p.out ?_; intro w5 hr hs hb; have R5_r := Lib.hid (hs.row R4_r.out N4_r_p.out); have R5_o := Lib.hid (hs.row R4_o.out N4_o_p.out); have R5_p := Lib.hid hr; have B5 := Lib.hid hb; clear hr hs hb))
  have LR := L1_r
  have LO := L2_o
  have NRO := N2_r_o
  have NOR := N2_o_r
  have NPO := N4_p_o
  have RR0 := R5_r
  have RO0 := R5_o
  have RP0 := R5_p
  have BB0 := B5
  go_loopw [12] (fun q wr => ∃ a : Nat, a ≤ n ∧ q = .int .i64 a ∧ wr.heap[w.heap.size]? = some (.cells (rvC V0 8) 51 (0, 0)) ∧ wr.heap[w1.heap.size]? = some (.cells (rvC (rwV n r a) 8) 51 (0, 0)) ∧ wr.heap[w3.heap.size]? = some (.cells P 87 (0, 0)) ∧ Below w.heap.size w wr) (fun q _ => n - (intOf q).toNat)
  case atStart => exact ⟨0, Nat.zero_le _, rfl, RR0.out, by rw [rwV_start]; exact RO0.out, RP0.out, BB0.out⟩
  case round =>
    obtain ⟨a, ha, rfl, h1, h2, h3, hbel⟩ := hrel
    have RR := Lib.hid h1
    have RO := Lib.hid h2
    have RP := Lib.hid h3
    have BR := Lib.hid hbel
    clear h1 h2 h3 hbel
    by_cases hlt : a < n
    · have h0 : (0 : Int) ≤ (a : Int) := by omega
      have h1 : (a : Int) < (n : Int) := by omega
      have h8a : (a : Int) < 8 := by omega
      have h32a : (a : Int) < 32 := by omega
      have cp := rowC RP.out (HDC.out a hlt)
      have hph := HPH.out a hlt
      have hst2 := HST.out a
      obtain ⟨K, hK⟩ : ∃ K, K = rwR n r a := ⟨_, rfl⟩
      rw [← hK] at cp hph hst2
      have HVO := Lib.hid (valueOf_any K hph.1 hph.2)
      obtain ⟨x, hx⟩ : ∃ x, x = f32of (vx K) := ⟨_, rfl⟩
      obtain ⟨y, hy⟩ : ∃ x, x = f32of (vy K) := ⟨_, rfl⟩
      rw [← hx, ← hy] at HVO hst2
      have HST2 := Lib.hid hst2
      clear hx hy hK hst2 hph
      have hst := @store_complex Try.prog
      go_wp2_with fail
      refine (HVO.out _).mono ?_
      rintro e w9 ⟨rfl, hb⟩
      have RO9 := rowB RO.out hb
      have hset := set_rv RO9 (c := a) (by omega) (x, y)
      rw [HST2.out] at hset
      have ct := cell_rv RO9 (c := a) (by omega)
      have ft := rowFree (i := a) RO9
      have S2 := Lib.hid hset
      have R2 := Lib.hid ((heap_setCell_other w9 ⟨w1.heap.size, a, none⟩ (w.heap.size) (.complex .f32 x y) NRO.out).trans (rowB RR.out hb))
      have P2 := Lib.hid ((heap_setCell_other w9 ⟨w1.heap.size, a, none⟩ (w3.heap.size) (.complex .f32 x y) NPO.out).trans (rowB RP.out hb))
      have B2 := Lib.hid ((joins BR.out hb).setCell (p := ⟨w1.heap.size, a, none⟩) LO.out (.complex .f32 x y))
      clear hset hb RO9
      go_wp2_with fail
      go_roundw
      case rel => exact ⟨a + 1, by omega, by go_num, R2.out, S2.out, P2.out, B2.out⟩
      case measure => simp [intOf]; omega
    · obtain rfl : n = a := by omega
      have IW := Lib.hid (infoRvC (rwV n r n))
      obtain ⟨W, hW⟩ : ∃ W, W = rvC (rwV n r n) 8 := ⟨_, rfl⟩
      have SW := Lib.hid (rvC_size (rwV n r n) 8)
      have OW := Lib.hid (rvC_one (rwV n r n) 8)
      rw [← hW] at RO IW SW OW
      have HW := Lib.hid hW
      clear hW
      go_wp2_with (first
        | ((with_reducible refine at_op (Op.load 51 (.tmp 5)) ?_); refine wpList_load_part rfl 51 (.tmp 5) rfl (w1.heap.size) 0 rfl W W 51 (0, 0) _ RO.out (Part.self _) Try.underlying51 rfl IW.out ?_)
        | ((with_reducible refine at_op (Op.store 51 (.tmp 4) (.tmp 23)) ?_); refine wpList_put_row rfl 51 (.tmp 4) (.tmp 23) rfl (w.heap.size) W rfl rfl 51 (rvC V0 8) RR.out 8 infoRv SW.out (rvC_size _ _) OW.out w.heap.size w BR.out LR.out ?_; intro w21 hr hs hb; have R21_o := Lib.hid (hs.row RO.out NOR.out); have R21_r := Lib.hid hr; have B21 := Lib.hid hb; clear hr hs hb))
      refine bodyPost_ret (v := .agg W) ?_ rfl ⟨by rw [HW.out], B21.out⟩
      exact results_cell_row Try.results75 _ _ (w.heap.size) 51 W (0, 0) _ rfl R21_r.out Try.underlying51 rfl IW.out

def rowsOk (V : Nat → Nat × Nat) (n i : Nat) (R : Nat → Nat → Int) : Prop := ∀ k, k < i → RowR (fun c => V (k * 8 + c)) n (R k)
theorem orB_step (R : Nat → Nat → Int) (n i : Nat) : ∀ a, a < i → (List.range a).all (fun k => decide (ipS vx (R k) (R i) n = 0) && decide (ipS vy (R k) (R i) n = 0)) = true → (decide (ipS vx (R a) (R i) n = 0) && decide (ipS vy (R a) (R i) n = 0)) = true → (List.range (a + 1)).all (fun k => decide (ipS vx (R k) (R i) n = 0) && decide (ipS vy (R k) (R i) n = 0)) = true := fun a _ h1 h2 => by
  rw [List.range_succ, List.all_append, h1]; simpa using h2
theorem orB_no (R : Nat → Nat → Int) (n i a : Nat) (h : a < i) (h2 : (decide (ipS vx (R a) (R i) n = 0) && decide (ipS vy (R a) (R i) n = 0)) = false) : orB R n i = false := by
  unfold orB
  rw [List.all_eq_false]
  exact ⟨a, List.mem_range.2 h, by rw [h2]; exact Bool.false_ne_true⟩
set_option maxRecDepth 100000 in
set_option maxHeartbeats 4000000 in
theorem isOrthogonalAbove_any (V : Nat → Nat × Nat) (n i : Nat) (hi : i < 8) (R : Nat → Nat → Int) (hV : rowsOk V n (i + 1) R) (w : World) :
    Calls Try.prog 76 #[.agg (mxC V n), .int .i64 i] w (Ret w (.bool (orB R n i))) := by
  have HIN := Lib.hid (fun a (ha : a < i) => inner_any _ _ n (R a) (R i) (hV a (by omega)) (hV i (by omega)))
  have PI := Lib.hid (fun a (ha : a < 8) => mxC_row V n (a * 8) (by omega))
  have IR8 := Lib.hid infoRvC
  have HNO := Lib.hid (fun a (ha : a < i) h => orB_no R n i a ha h)
  have HYE := Lib.hid (fun a (ha : a < i) => orB_step R n i a ha)
  have HBX := Lib.hid (fun a => ipS_small vx vx_one (R a) (R i) n 8 (Nat.le_refl _))
  have HBY := Lib.hid (fun a => ipS_small vy vy_one (R a) (R i) n 8 (Nat.le_refl _))
  obtain ⟨p, hp⟩ : ∃ p : Nat → Bool, p = fun k => decide (ipS vx (R k) (R i) n = 0) && decide (ipS vy (R k) (R i) n = 0) := ⟨_, rfl⟩
  have hp2 : ∀ k, (decide (ipS vx (R k) (R i) n = 0) && decide (ipS vy (R k) (R i) n = 0)) = p k := fun k => by rw [hp]
  simp only [hp2] at HNO HYE
  have HP2 := Lib.hid hp2
  obtain ⟨o, ho⟩ : ∃ o, o = orB R n i := ⟨_, rfl⟩
  have HOB := Lib.hid (show o = (List.range i).all p by rw [ho, hp]; rfl)
  rw [← ho] at HNO ⊢
  clear hV hp hp2 ho
  have B0 := Lib.hid (Below.refl w.heap.size w)
  go_enter Try.func76, Try.ntmps76
  go_wp2_with ((with_reducible refine at_op (Op.box 55 (.tmp 0)) ?_); refine wpList_box_row rfl 55 (.tmp 0) rfl (mxC V n) rfl ?_; intro w1 hr hb hz; have R1_m := Lib.hid hr; have B1 := Lib.hid (joins B0.out hb); have L1_m := Lib.hid (show w.heap.size ≤ w.heap.size from B0.out.size); clear hr hb hz)
  have RM0 := R1_m
  have BB0 := B1
  go_loopw [7] (fun q wr => ∃ a : Nat, a ≤ i ∧ q = .int .i64 a ∧ (List.range a).all p = true ∧ wr.heap[w.heap.size]? = some (.cells (mxC V n) 55 (0, 0)) ∧ Below w.heap.size w wr) (fun q _ => i - (intOf q).toNat)
  case atStart => exact ⟨0, Nat.zero_le _, rfl, rfl, RM0.out, BB0.out⟩
  case round =>
    obtain ⟨a, ha, rfl, hal, hm, hbel⟩ := hrel
    have RM := Lib.hid hm
    have BR := Lib.hid hbel
    have HAL := Lib.hid hal
    clear hm hbel hal
    by_cases hlt : a < i
    · have h0 : (0 : Int) ≤ (a : Int) := by omega
      have h1 : (a : Int) < (i : Int) := by omega
      have h8a : (a : Int) < 8 := by omega
      have h0i : (0 : Int) ≤ (i : Int) := by omega
      have h8i : (i : Int) < 8 := by omega
      have hin := HIN.out a hlt
      have bx := HBX.out a
      have by' := HBY.out a
      have PA := Lib.hid (PI.out a (by omega))
      have PB := Lib.hid (PI.out i hi)
      have hpa := HP2.out a
      have hnq := fun w t => run_neqz (P := Try.prog) w t (ipS vx (R a) (R i) n) (ipS vy (R a) (R i) n) (by unfold ipS; omega) (by unfold ipS; omega)
      rw [hpa] at hnq
      obtain ⟨x, hx⟩ : ∃ x, x = f32of (ipS vx (R a) (R i) n) := ⟨_, rfl⟩
      obtain ⟨y, hy⟩ : ∃ x, x = f32of (ipS vy (R a) (R i) n) := ⟨_, rfl⟩
      rw [← hx, ← hy] at hin hnq
      have hnq2 : ((FloatKind.f32.format.order x 0 == some .eq) && (FloatKind.f32.format.order y 0 == some .eq)) = p a := by
        have := hnq w 0
        rw [run_neq_complex] at this
        simp only [Result.ok.injEq, Value.bool.injEq, and_true] at this
        revert this
        generalize ((FloatKind.f32.format.order x 0 == some .eq) && (FloatKind.f32.format.order y 0 == some .eq)) = z
        cases z <;> cases p a <;> simp
      have HIN' := Lib.hid hin
      obtain ⟨U1, hU1⟩ : ∃ U : Nat → Nat × Nat, U = fun c => V (a * 8 + c) := ⟨_, rfl⟩
      obtain ⟨U2, hU2⟩ : ∃ U : Nat → Nat × Nat, U = fun c => V (i * 8 + c) := ⟨_, rfl⟩
      rw [← hU1] at PA HIN'
      rw [← hU2] at PB HIN'
      clear hin bx by' hpa hx hy hU1 hU2 hnq
      cases hpa : p a with
      | true =>
        rw [hpa] at hnq2
        have HPA := Lib.hid hpa
        clear hpa
        go_wp2_with fail
        refine wp_region_held_drew (S := (fun w' => World.grownBy wr w' none)) (by kernel_rfl) (grownDrew (World.grownBy.refl _ _)) ?_
        obtain ⟨w31, hdw⟩ : ∃ w', w' = wr.drew := ⟨_, rfl⟩
        rw [← hdw]
        have hb : Below wr.heap.size wr w31 := by rw [hdw]; exact belowN (Below.refl _ _) 1
        have R31_m := Lib.hid (rowB RM.out hb)
        have B31 := Lib.hid (joins BR.out hb)
        clear hdw hb
        intro hHeld
        refine' wpAnyH_take (i := 0) (v := _) rfl (by kernel_rfl) (by kernel_rfl) (by kernel_rfl) (fun _ _ _ h => h) (Or.inl ⟨by rfl, ?hy1⟩) (by assumption) ?rest1
        case hy1 =>
          intro w h
          (try clear h)
          go_simp
          (try with_reducible rfl)
        (try simp only [Act.put, List.getElem_toArray, List.getElem_cons_zero, List.setIfInBounds_toArray, List.set_cons_zero, List.set_cons_succ])
        refine' wpAnyH_take (i := 1) (v := _) rfl (by kernel_rfl) (by kernel_rfl) (by kernel_rfl) (fun _ _ _ h => h) (Or.inl ⟨by rfl, ?hy2⟩) (by assumption) ?rest2
        case hy2 =>
          intro w h
          (try clear h)
          go_simp
          (try with_reducible rfl)
        (try simp only [Act.put, List.getElem_toArray, List.getElem_cons_zero, List.getElem_cons_succ, List.setIfInBounds_toArray, List.set_cons_zero, List.set_cons_succ])
        refine' wpAnyH_take (i := 2) (v := _) rfl (by kernel_rfl) (by kernel_rfl) (by kernel_rfl) (fun _ _ _ h => h) (Or.inl ⟨by rfl, ?hy3⟩) (by assumption) ?rest3
        case hy3 =>
          intro w h
          (try clear h)
          go_simp
          (try with_reducible rfl)
        (try simp only [Act.put, List.getElem_toArray, List.getElem_cons_zero, List.getElem_cons_succ, List.setIfInBounds_toArray, List.set_cons_zero, List.set_cons_succ])
        refine' wpAnyH_take (i := 3) (v := _) rfl (by kernel_rfl) (by kernel_rfl) (by kernel_rfl) (fun _ _ _ h => h) (yieldsPart (by rfl) 51 (.tmp 12) rfl (w.heap.size) (a * 8) rfl (mxC V n) (rvC U1 8) 55 (0, 0) _ (fun w h => (rowG RM.out h (by simp))) PA.out Try.underlying51 rfl (IR8.out U1)) (by assumption) ?rest4
        (try simp only [Act.put, List.getElem_toArray, List.getElem_cons_zero, List.getElem_cons_succ, List.setIfInBounds_toArray, List.set_cons_zero, List.set_cons_succ])
        refine' wpAnyH_take (i := 4) (v := _) rfl (by kernel_rfl) (by kernel_rfl) (by kernel_rfl) (fun _ _ _ h => h) (Or.inl ⟨by rfl, ?hy5⟩) (by assumption) ?rest5
        case hy5 =>
          intro w h
          (try clear h)
          go_simp
          (try with_reducible rfl)
        (try simp only [Act.put, List.getElem_toArray, List.getElem_cons_zero, List.getElem_cons_succ, List.setIfInBounds_toArray, List.set_cons_zero, List.set_cons_succ])
        refine' wpAnyH_take (i := 5) (v := _) rfl (by kernel_rfl) (by kernel_rfl) (by kernel_rfl) (fun _ _ _ h => h) (Or.inl ⟨by rfl, ?hy6⟩) (by assumption) ?rest6
        case hy6 =>
          intro w h
          (try clear h)
          go_simp
          (try with_reducible rfl)
        (try simp only [Act.put, List.getElem_toArray, List.getElem_cons_zero, List.getElem_cons_succ, List.setIfInBounds_toArray, List.set_cons_zero, List.set_cons_succ])
        refine' wpAnyH_take (i := 6) (v := _) rfl (by kernel_rfl) (by kernel_rfl) (by kernel_rfl) (fun _ _ _ h => h) (Or.inl ⟨by rfl, ?hy7⟩) (by assumption) ?rest7
        case hy7 =>
          intro w h
          (try clear h)
          go_simp
          (try with_reducible rfl)
        (try simp only [Act.put, List.getElem_toArray, List.getElem_cons_zero, List.getElem_cons_succ, List.setIfInBounds_toArray, List.set_cons_zero, List.set_cons_succ])
        refine' wpAnyH_take (i := 7) (v := _) rfl (by kernel_rfl) (by kernel_rfl) (by kernel_rfl) (fun _ _ _ h => h) (yieldsPart (by rfl) 51 (.tmp 16) rfl (w.heap.size) (i * 8) rfl (mxC V n) (rvC U2 8) 55 (0, 0) _ (fun w h => (rowG RM.out h (by simp))) PB.out Try.underlying51 rfl (IR8.out U2)) (by assumption) ?rest8
        (try simp only [Act.put, List.getElem_toArray, List.getElem_cons_zero, List.getElem_cons_succ, List.setIfInBounds_toArray, List.set_cons_zero, List.set_cons_succ])
        refine wpAnyH_ready (rs := [8]) (by kernel_rfl) (by simp) ?_
        refine AllReadyH.cons rfl (fun K hK => ?_) AllReadyH.nil
        go_simp
        refine (HIN'.out _).mono ?_
        rintro e w32 ⟨rfl, hb⟩
        have R32_m := Lib.hid (rowB R31_m.out hb)
        have B32 := Lib.hid (joins B31.out hb)
        have hHeld := grownB hHeld hb
        clear hb
        refine hK.out _ _ hHeld (fun hHeld => ?_)
        clear hK K
        (try simp only [Act.put, List.getElem_toArray, List.getElem_cons_zero, List.getElem_cons_succ, List.setIfInBounds_toArray, List.set_cons_zero, List.set_cons_succ])
        refine' wpAnyH_take (i := 9) (v := _) rfl (by kernel_rfl) (by kernel_rfl) (by kernel_rfl) (fun _ _ _ h => h) (Or.inl ⟨by rfl, ?hy9⟩) (by assumption) ?rest9
        case hy9 =>
          intro w h
          (try clear h)
          go_simp
          (try with_reducible rfl)
        (try simp only [Act.put, List.getElem_toArray, List.getElem_cons_zero, List.getElem_cons_succ, List.setIfInBounds_toArray, List.set_cons_zero, List.set_cons_succ])
        refine wpAnyH_done (by kernel_rfl) ?_ _
        go_wp2_with fail
        go_roundw
        case rel => exact ⟨a + 1, by omega, by go_num, HYE.out a hlt HAL.out HPA.out, R32_m.out, B32.out⟩
        case measure => simp [intOf]; omega
      | false =>
        rw [hpa] at hnq2
        have HPA := Lib.hid hpa
        clear hpa
        go_wp2_with fail
        refine wp_region_held_drew (S := (fun w' => World.grownBy wr w' none)) (by kernel_rfl) (grownDrew (World.grownBy.refl _ _)) ?_
        obtain ⟨w31, hdw⟩ : ∃ w', w' = wr.drew := ⟨_, rfl⟩
        rw [← hdw]
        have hb : Below wr.heap.size wr w31 := by rw [hdw]; exact belowN (Below.refl _ _) 1
        have R31_m := Lib.hid (rowB RM.out hb)
        have B31 := Lib.hid (joins BR.out hb)
        clear hdw hb
        intro hHeld
        refine' wpAnyH_take (i := 0) (v := _) rfl (by kernel_rfl) (by kernel_rfl) (by kernel_rfl) (fun _ _ _ h => h) (Or.inl ⟨by rfl, ?hy10⟩) (by assumption) ?rest10
        case hy10 =>
          intro w h
          (try clear h)
          go_simp
          (try with_reducible rfl)
        (try simp only [Act.put, List.getElem_toArray, List.getElem_cons_zero, List.setIfInBounds_toArray, List.set_cons_zero, List.set_cons_succ])
        refine' wpAnyH_take (i := 1) (v := _) rfl (by kernel_rfl) (by kernel_rfl) (by kernel_rfl) (fun _ _ _ h => h) (Or.inl ⟨by rfl, ?hy11⟩) (by assumption) ?rest11
        case hy11 =>
          intro w h
          (try clear h)
          go_simp
          (try with_reducible rfl)
        (try simp only [Act.put, List.getElem_toArray, List.getElem_cons_zero, List.getElem_cons_succ, List.setIfInBounds_toArray, List.set_cons_zero, List.set_cons_succ])
        refine' wpAnyH_take (i := 2) (v := _) rfl (by kernel_rfl) (by kernel_rfl) (by kernel_rfl) (fun _ _ _ h => h) (Or.inl ⟨by rfl, ?hy12⟩) (by assumption) ?rest12
        case hy12 =>
          intro w h
          (try clear h)
          go_simp
          (try with_reducible rfl)
        (try simp only [Act.put, List.getElem_toArray, List.getElem_cons_zero, List.getElem_cons_succ, List.setIfInBounds_toArray, List.set_cons_zero, List.set_cons_succ])
        refine' wpAnyH_take (i := 3) (v := _) rfl (by kernel_rfl) (by kernel_rfl) (by kernel_rfl) (fun _ _ _ h => h) (yieldsPart (by rfl) 51 (.tmp 12) rfl (w.heap.size) (a * 8) rfl (mxC V n) (rvC U1 8) 55 (0, 0) _ (fun w h => (rowG RM.out h (by simp))) PA.out Try.underlying51 rfl (IR8.out U1)) (by assumption) ?rest13
        (try simp only [Act.put, List.getElem_toArray, List.getElem_cons_zero, List.getElem_cons_succ, List.setIfInBounds_toArray, List.set_cons_zero, List.set_cons_succ])
        refine' wpAnyH_take (i := 4) (v := _) rfl (by kernel_rfl) (by kernel_rfl) (by kernel_rfl) (fun _ _ _ h => h) (Or.inl ⟨by rfl, ?hy14⟩) (by assumption) ?rest14
        case hy14 =>
          intro w h
          (try clear h)
          go_simp
          (try with_reducible rfl)
        (try simp only [Act.put, List.getElem_toArray, List.getElem_cons_zero, List.getElem_cons_succ, List.setIfInBounds_toArray, List.set_cons_zero, List.set_cons_succ])
        refine' wpAnyH_take (i := 5) (v := _) rfl (by kernel_rfl) (by kernel_rfl) (by kernel_rfl) (fun _ _ _ h => h) (Or.inl ⟨by rfl, ?hy15⟩) (by assumption) ?rest15
        case hy15 =>
          intro w h
          (try clear h)
          go_simp
          (try with_reducible rfl)
        (try simp only [Act.put, List.getElem_toArray, List.getElem_cons_zero, List.getElem_cons_succ, List.setIfInBounds_toArray, List.set_cons_zero, List.set_cons_succ])
        refine' wpAnyH_take (i := 6) (v := _) rfl (by kernel_rfl) (by kernel_rfl) (by kernel_rfl) (fun _ _ _ h => h) (Or.inl ⟨by rfl, ?hy16⟩) (by assumption) ?rest16
        case hy16 =>
          intro w h
          (try clear h)
          go_simp
          (try with_reducible rfl)
        (try simp only [Act.put, List.getElem_toArray, List.getElem_cons_zero, List.getElem_cons_succ, List.setIfInBounds_toArray, List.set_cons_zero, List.set_cons_succ])
        refine' wpAnyH_take (i := 7) (v := _) rfl (by kernel_rfl) (by kernel_rfl) (by kernel_rfl) (fun _ _ _ h => h) (yieldsPart (by rfl) 51 (.tmp 16) rfl (w.heap.size) (i * 8) rfl (mxC V n) (rvC U2 8) 55 (0, 0) _ (fun w h => (rowG RM.out h (by simp))) PB.out Try.underlying51 rfl (IR8.out U2)) (by assumption) ?rest17
        (try simp only [Act.put, List.getElem_toArray, List.getElem_cons_zero, List.getElem_cons_succ, List.setIfInBounds_toArray, List.set_cons_zero, List.set_cons_succ])
        refine wpAnyH_ready (rs := [8]) (by kernel_rfl) (by simp) ?_
        refine AllReadyH.cons rfl (fun K hK => ?_) AllReadyH.nil
        go_simp
        refine (HIN'.out _).mono ?_
        rintro e w32 ⟨rfl, hb⟩
        have R32_m := Lib.hid (rowB R31_m.out hb)
        have B32 := Lib.hid (joins B31.out hb)
        have hHeld := grownB hHeld hb
        clear hb
        refine hK.out _ _ hHeld (fun hHeld => ?_)
        clear hK K
        (try simp only [Act.put, List.getElem_toArray, List.getElem_cons_zero, List.getElem_cons_succ, List.setIfInBounds_toArray, List.set_cons_zero, List.set_cons_succ])
        refine' wpAnyH_take (i := 9) (v := _) rfl (by kernel_rfl) (by kernel_rfl) (by kernel_rfl) (fun _ _ _ h => h) (Or.inl ⟨by rfl, ?hy18⟩) (by assumption) ?rest18
        case hy18 =>
          intro w h
          (try clear h)
          go_simp
          (try with_reducible rfl)
        (try simp only [Act.put, List.getElem_toArray, List.getElem_cons_zero, List.getElem_cons_succ, List.setIfInBounds_toArray, List.set_cons_zero, List.set_cons_succ])
        refine wpAnyH_done (by kernel_rfl) ?_ _
        go_wp2_with fail
        go_returns
        exact ⟨ret_bool (HNO.out a hlt HPA.out).symm, B32.out⟩
    · obtain rfl : a = i := by omega
      go_wp2_with fail
      go_returns
      exact ⟨ret_bool (by rw [HOB.out, HAL.out]), BR.out⟩

theorem shl_four2 (n : Nat) (hn : n ≤ 3) : wrap64 (2 ^ (2 * n)) = ((4 ^ n : Nat) : Int) := by
  rcases (show n = 0 ∨ n = 1 ∨ n = 2 ∨ n = 3 by omega) with rfl | rfl | rfl | rfl <;> simp [wrap64]
theorem four_le2 (n : Nat) (hn : n ≤ 3) : 1 ≤ 4 ^ n ∧ 4 ^ n ≤ 64 := by
  rcases (show n = 0 ∨ n = 1 ∨ n = 2 ∨ n = 3 by omega) with rfl | rfl | rfl | rfl <;> simp
theorem pow_le2 (n d : Nat) (hn : n ≤ 3) (hd : d ≤ 3) : (4 ^ n) ^ d ≤ 262144 := by
  have h := (four_le2 n hn).2
  refine Nat.le_trans (Nat.pow_le_pow_left h d) ?_
  rcases (show d = 0 ∨ d = 1 ∨ d = 2 ∨ d = 3 by omega) with rfl | rfl | rfl | rfl <;> simp
theorem rowsOk_set {V : Nat → Nat × Nat} {n i : Nat} {R : Nat → Nat → Int} (h : rowsOk V n i R) (r : Nat) : rowsOk (upR V (i * 8) (rwV n r n)) n (i + 1) (setR R n i r) := fun k hk => by
  unfold setR
  by_cases e : k = i
  · subst e
    rw [if_pos rfl]
    intro j hj
    have := rw_RowR n r j hj
    have e2 : upR V (k * 8) (rwV n r n) (k * 8 + j) = rwV n r n j := by
      unfold upR
      rw [if_pos (by omega)]
      congr 1; omega
    simp only [e2]; exact this
  · rw [if_neg e]
    intro j hj
    have e2 : upR V (i * 8) (rwV n r n) (k * 8 + j) = V (k * 8 + j) := by
      unfold upR
      rw [if_neg (by omega)]
    simp only [e2]; exact h k (by omega) j hj
theorem wrapC (z : Int) (h : -1000000 ≤ z ∧ z ≤ 1000000) : wrap64 z = z := IntWalk.wrap64_in z ⟨by omega, by omega⟩
set_option maxRecDepth 100000 in
set_option maxHeartbeats 8000000 in
theorem hadamardsFrom_any (n : Nat) (hn : n ≤ 3) : ∀ (d : Nat), d ≤ n → ∀ (V : Nat → Nat × Nat) (R : Nat → Nat → Int), rowsOk V n (n - d) R → ∀ w,
    Calls Try.prog 59 #[.agg (mxC V n), .int .i64 ((n - d : Nat) : Int)] w (Ret w (.int .i64 (hcF n d R))) := by
  intro d
  induction d with
  | zero =>
    intro _ V R _ w
    rw [Nat.sub_zero]
    go_enter Try.func59, Try.ntmps59
    go_wp2_with (refine wpList_box_row rfl 55 (.tmp 0) rfl (mxC V n) rfl ?_; intro w1 hr1 hb1 hz1; have c1 := rowC hr1 (mxC_side V n); clear hz1 hr1)
    go_returns
    exact ⟨rfl, hb1⟩
  | succ d ih =>
    intro hd V R hV w
    obtain ⟨i, hi⟩ : ∃ i, i = n - (d + 1) := ⟨_, rfl⟩
    have hid : n - d = i + 1 := by omega
    rw [← hi] at hV ⊢
    have hin : i < n := by omega
    have IH := Lib.hid (fun V' R' (h : rowsOk V' n (i + 1) R') w => ih (by omega) V' R' (by rw [hid]; exact h) w)
    rw [hid] at IH
    have HRW := Lib.hid (fun r (hr : r < 4 ^ n) => rowWith_any n (by omega) r hr)
    have HOR := Lib.hid (fun V' R' (h : rowsOk V' n (i + 1) R') => isOrthogonalAbove_any V' n i (by omega) R' h)
    have hF : hcF n (d + 1) R = addN (fun r => if orB (setR R n i r) n i then hcF n d (setR R n i r) else 0) (4 ^ n) := by
      simp only [hcF]; rw [← hi]
    have hFB := Lib.hid (fun R' => Nat.le_trans (hcF_le n d R') (pow_le2 n d hn (by omega)))
    have hTB : ∀ k, k ≤ 4 ^ n → addN (fun r => if orB (setR R n i r) n i then hcF n d (setR R n i r) else 0) k ≤ 262144 := fun k hk => by
      refine Nat.le_trans (addN_le _ ((4 ^ n) ^ d) (fun r => ?_) k) (Nat.le_trans (Nat.mul_le_mul_right _ hk) ?_)
      · split
        · exact hcF_le n d _
        · exact Nat.zero_le _
      · rw [Nat.mul_comm, ← Nat.pow_succ]; exact pow_le2 n (d + 1) hn (by omega)
    rw [hF]
    obtain ⟨O, hO⟩ : ∃ O : Nat → Bool, O = fun r => orB (setR R n i r) n i := ⟨_, rfl⟩
    obtain ⟨C, hC⟩ : ∃ C : Nat → Nat, C = fun r => hcF n d (setR R n i r) := ⟨_, rfl⟩
    have hOC : (fun r => if orB (setR R n i r) n i then hcF n d (setR R n i r) else 0) = fun r => if O r then C r else 0 := by rw [hO, hC]
    rw [hOC] at hTB ⊢
    have HO := Lib.hid (fun r => show orB (setR R n i r) n i = O r by rw [hO])
    have HC := Lib.hid (fun r => show hcF n d (setR R n i r) = C r by rw [hC])
    obtain ⟨S, hS⟩ : ∃ S : Nat → Nat, S = addN (fun r => if O r then C r else 0) := ⟨_, rfl⟩
    have HSS := Lib.hid (fun k => show S (k + 1) = S k + (if O k then C k else 0) by rw [hS]; rfl)
    rw [← hS] at hTB ⊢
    have HS0 := Lib.hid (show S 0 = 0 by rw [hS]; rfl)
    have hsh := shl_four2 n hn
    have hle := four_le2 n hn
    obtain ⟨N, hN⟩ : ∃ N, N = 4 ^ n := ⟨_, rfl⟩
    rw [← hN] at HRW hTB hsh hle ⊢
    have HTB := Lib.hid hTB
    have IM := Lib.hid (fun V' => infoMxC V' n)
    have IR8 := Lib.hid infoRv
    have HSET := Lib.hid (fun V' (h : rowsOk V' n i R) r => rowsOk_set h r)
    have HV0 := Lib.hid hV
    have hne : ¬ (i : Int) = (n : Int) := by omega
    clear ih hF hO hC hOC hS hN hTB hV hd hi hid
    have B0 := Lib.hid (Below.refl w.heap.size w)
    go_enter Try.func59, Try.ntmps59
    go_wp2_with ((with_reducible refine at_op (Op.box 55 (.tmp 0)) ?_); refine wpList_box_row rfl 55 (.tmp 0) rfl (mxC V n) rfl ?_; intro w1 hr hb hz; have R1_m := Lib.hid hr; have B1 := Lib.hid (joins B0.out hb); have L1_m := Lib.hid (show w.heap.size ≤ w.heap.size from B0.out.size); have c0 := rowC hr (mxC_side V n); clear hr hb hz)
    have RM0 := R1_m
    have BB0 := B1
    have LM := L1_m
    simp only [hsh, beq_eq_false_iff_ne.2 hne]
    clear hsh
    go_loopw [15, 5] (fun q s wr => ∃ a : Nat, a ≤ N ∧ q = .int .i64 a ∧ s = .int .i64 (S a : Nat) ∧ (∃ V', rowsOk V' n i R ∧ wr.heap[w.heap.size]? = some (.cells (mxC V' n) 55 (0, 0))) ∧ Below w.heap.size w wr) (fun q _ _ => N - (intOf q).toNat)
    case atStart => exact ⟨0, Nat.zero_le _, rfl, by rw [HS0.out]; rfl, ⟨V, HV0.out, RM0.out⟩, BB0.out⟩
    case round =>
      obtain ⟨a, ha, rfl, rfl, ⟨V', hV', hm⟩, hbel⟩ := hrel
      have RM := Lib.hid hm
      have BR := Lib.hid hbel
      have HV' := Lib.hid hV'
      have c0 := rowC hm (mxC_side _ _)
      clear hm hbel hV'
      by_cases hlt : a < N
      · have h0 : (0 : Int) ≤ (a : Int) := by omega
        have h1 : (a : Int) < (N : Int) := by omega
        have h0i : (0 : Int) ≤ (i : Int) := by omega
        have h8i : (i : Int) < 8 := by omega
        have HRW1 := Lib.hid (HRW.out a hlt)
        have HN2 := Lib.hid (HSET.out V' HV'.out a)
        have HOR1 := Lib.hid (HOR.out _ _ HN2.out)
        rw [HO.out] at HOR1
        have IH1 := Lib.hid (IH.out _ _ HN2.out)
        rw [HC.out] at IH1
        obtain ⟨U, hU⟩ : ∃ U, U = rwV n a n := ⟨_, rfl⟩
        rw [← hU] at HRW1 HOR1 IH1
        have HVN := Lib.hid (show rowsOk (upR V' (i * 8) U) n i R from fun k hk j hj => by
          have e2 : upR V' (i * 8) U (k * 8 + j) = V' (k * 8 + j) := by
            unfold upR
            rw [if_neg (by omega)]
          simp only [e2]; exact HV'.out k hk j hj)
        have hss := HSS.out a
        have hcb := HTB.out (a + 1) (by omega)
        have hwi : wrap64 ((i : Int) + 1) = ((i + 1 : Nat) : Int) := by
          clear hss hcb
          exact Eq.trans (wrapC ((i : Int) + 1) (by omega)) (by push_cast; rfl)
        obtain ⟨V2, hV2⟩ : ∃ V2, V2 = upR V' (i * 8) U := ⟨_, rfl⟩
        have HV2 := Lib.hid hV2
        rw [← hV2] at HOR1 IH1 HVN
        clear hU hV2
        go_wp2_with fail
        refine (HRW1.out _).mono ?_
        rintro e w2 ⟨rfl, hb⟩
        have RM2 := Lib.hid (rowB RM.out hb)
        have B2 := Lib.hid (joins BR.out hb)
        clear hb
        go_wp2_with (first
          | ((with_reducible refine at_op (Op.store 51 (.tmp 24) (.tmp 22)) ?_); refine wpList_put_rv rfl 51 (.tmp 24) (.tmp 22) rfl (w.heap.size) (i * 8) U rfl rfl V' n 55 RM2.out (by omega) IR8.out w.heap.size w B2.out LM.out ?_; intro w3 hr hs hb; rw [← HV2.out] at hr; have RM3 := Lib.hid hr; have B3 := Lib.hid hb; clear hr hs hb)
          | ((with_reducible refine at_op (Op.load 55 (.tmp 2)) ?_); refine wpList_load_part rfl 55 (.tmp 2) rfl (w.heap.size) 0 rfl (mxC V2 n) (mxC V2 n) 55 (0, 0) _ RM3.out (Part.self _) Try.underlying55 rfl (IM.out V2) ?_))
        refine (HOR1.out _).mono ?_
        rintro e w4 ⟨rfl, hb⟩
        have RM4 := Lib.hid (rowB RM3.out hb)
        have B4 := Lib.hid (joins B3.out hb)
        clear hb
        cases hoa : O a with
        | false =>
          rw [hoa] at hss
          simp only [Bool.false_eq_true, if_false, Nat.add_zero] at hss
          have HSA := Lib.hid hss
          clear hss hcb hoa
          go_wp2_with fail
          go_roundw
          case rel => exact ⟨a + 1, by omega, by go_num, by rw [HSA.out], ⟨V2, HVN.out, RM4.out⟩, B4.out⟩
          case measure => simp [intOf]; omega
        | true =>
          rw [hoa] at hss
          simp only [if_true] at hss
          obtain ⟨x, hx⟩ : ∃ x, x = S a := ⟨_, rfl⟩
          obtain ⟨y, hy⟩ : ∃ x, x = C a := ⟨_, rfl⟩
          rw [← hx, ← hy] at hss
          rw [← hy] at IH1
          rw [← hx]
          have hxy : x + y ≤ 262144 := by omega
          have HSA := Lib.hid hss
          clear hss hcb hoa hx hy
          have hwx : wrap64 ((x : Int) + (y : Int)) = (x : Int) + (y : Int) := wrapC _ (by omega)
          go_wp2_with ((with_reducible refine at_op (Op.load 55 (.tmp 2)) ?_); refine wpList_load_part rfl 55 (.tmp 2) rfl (w.heap.size) 0 rfl (mxC V2 n) (mxC V2 n) 55 (0, 0) _ RM4.out (Part.self _) Try.underlying55 rfl (IM.out V2) ?_)
          refine (IH1.out _).mono ?_
          rintro e w5 ⟨rfl, hb⟩
          have RM5 := Lib.hid (rowB RM4.out hb)
          have B5 := Lib.hid (joins B4.out hb)
          clear hb
          go_wp2_with fail
          go_roundw
          case rel => exact ⟨a + 1, by omega, by go_num, by rw [HSA.out]; push_cast; rfl, ⟨V2, HVN.out, RM5.out⟩, B5.out⟩
          case measure => simp [intOf]; omega
      · obtain rfl : N = a := by omega
        go_wp2_with fail
        go_returns
        exact ⟨rfl, BR.out⟩

theorem hcF_ch (n : Nat) (h1 : 1 ≤ n) (h3 : n ≤ 3) : ((hcF n n (fun _ _ => 0) : Nat) : Int) = chC n := by
  rcases (show n = 1 ∨ n = 2 ∨ n = 3 by omega) with rfl | rfl | rfl
  · rw [hc_one]; rfl
  · rw [hc_two]; rfl
  · rw [hc_three]; rfl
set_option maxRecDepth 100000 in
set_option maxHeartbeats 2000000 in
theorem icountHadamard (n : Int) (w : World) : Calls Try.prog 26 #[.int .i64 n] w (Ret w (.tuple #[.int .i64 (if chOk n then chC n else 0), .bool (chOk n)])) := by
  cases hok : chOk n with
  | true =>
    have h : 1 ≤ n ∧ n ≤ 3 := of_decide_eq_true hok
    obtain ⟨q, rfl⟩ := Int.eq_ofNat_of_zero_le (show 0 ≤ n by omega)
    rw [if_pos rfl]
    have HF := hadamardsFrom_any q (by omega) q (Nat.le_refl _) V0 (fun _ _ => 0) (fun k hk => by omega)
    rw [Nat.sub_self, hcF_ch q (by omega) (by omega)] at HF
    have HF' := Lib.hid HF
    have HBU := Lib.hid (builtMx (q : Int))
    obtain ⟨X, hX⟩ : ∃ X, X = chC (q : Int) := ⟨_, rfl⟩
    rw [← hX] at HF' ⊢
    obtain ⟨h1, h2⟩ := h
    have B0 := Lib.hid (Below.refl w.heap.size w)
    clear HF hX hok
    go_enter Try.func26, Try.ntmps26
    go_wp2_with ((with_reducible refine at_op (Op.build 55 #[(1, .tmp 10)]) ?_); refine wpList_build_row rfl 55 [(1, .tmp 10)] rfl (mxC V0 q) HBU.out ?_)
    refine (HF'.out _).mono ?_
    rintro e w2 ⟨rfl, hb⟩
    have B2 := Lib.hid (joins B0.out hb)
    clear hb
    go_wp2_with fail
    go_returns
    exact ⟨rfl, B2.out⟩
  | false =>
    have h : ¬ (1 ≤ n ∧ n ≤ 3) := of_decide_eq_false hok
    rw [if_neg (by decide)]
    clear hok
    rcases (show n < 1 ∨ 3 < n by omega) with h1 | h1
    all_goals
      clear h
      (try have h2 : ¬ n < 1 := by omega)
      go_enter Try.func26, Try.ntmps26
      go_wp2_with fail
      go_returns
      exact ⟨rfl, by go_grown⟩
end Go.Proofs.Ytbppbkoppbnodab
