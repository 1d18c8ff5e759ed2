/- The program's correlationsAt, correlationsIfPerfect, isPerfect of arrays, IsPerfectArray. -/
import Derived.Test.YtjoepdflbbcliabIGc
import Derived.Test.YtjoepdflbbcliabRs
namespace Go.Proofs.Ytjoepdflbbcliab
set_option maxRecDepth 100000
open Go.RowKit

theorem infoRs : (Try.prog.info? 83).map (·.size) = some 8 := by kernel_rfl
theorem infoRsC (V : Nat → Nat × Nat) : (Try.prog.info? 83).map (·.size) = some (rvC V 8).size := by rw [rvC_size]; exact infoRs
theorem zeroRs (w : World) : (zeroValue 83).run Try.prog w = .ok (.agg (rvC V0 8)) w := by
  refine zero_is_of ?_ w
  kernel_rfl
theorem rv_set {w : World} {g c : Nat} {V : Nat → Nat × Nat} {t : TypeId} (h : w.heap[g]? = some (.cells (rvC V 8) t (0, 0))) (hc : c < 8) (x y : Nat) : (w.setCell ⟨g, c, none⟩ (.complex .f32 x y)).heap[g]? = some (.cells (rvC (up V c (x, y)) 8) t (0, 0)) := by
  have := heap_setCell_same w g c _ _ (.complex .f32 x y) h
  rwa [show (rvC V 8).setIfInBounds c (.complex .f32 x y) = rvC (up V c (x, y)) 8 from rvC_set V 8 c hc (x, y)] at this
theorem f32_int64 : ∀ n : Nat, n < 65 → floatOfInt .f32 (n : Int) = f32of (n : Int) := by decide +kernel

set_option maxRecDepth 100000 in
set_option maxHeartbeats 4000000 in
theorem corrAt_any (n m : Nat) (M : Nat → Nat → Int) (hn : 1 ≤ n ∧ n ≤ 8) (hm : 1 ≤ m ∧ m ≤ 8) (hM : ∀ i j, i < n → j < m → 0 ≤ M i j ∧ M i j ≤ 3) (u : Nat) (hu : u < n) (w : World) :
    Calls Try.prog 69 #[.agg (grA (GV n m M) n m), .int .i64 u] w (Ret w (.agg (rvC (csV n m M u m) 8))) := by
  have IM := Lib.hid (infoGrA (GV n m M) n m)
  have HM := Lib.hid (grA_cols (GV n m M) n m)
  have HCO := Lib.hid (fun (v : Nat) (hv : v < m) w' => grCorr_any n m M hn hm hM u v hu hv w')
  have HST := Lib.hid (fun k => csV_step n m M u k)
  have H0 := Lib.hid (csV_zero n m M u)
  obtain ⟨CS, hCS⟩ : ∃ T, T = csV n m M u := ⟨_, rfl⟩
  rw [← hCS] at H0 ⊢
  simp only [← hCS] at HST
  obtain ⟨FX, hFX⟩ : ∃ F : Nat → Nat, F = fun v => f32of (gaS vx n m M u v n) := ⟨_, rfl⟩
  obtain ⟨FY, hFY⟩ : ∃ F : Nat → Nat, F = fun v => f32of (gaS vy n m M u v n) := ⟨_, rfl⟩
  have eX : ∀ v, f32of (gaS vx n m M u v n) = FX v := fun v => by rw [hFX]
  have eY : ∀ v, f32of (gaS vy n m M u v n) = FY v := fun v => by rw [hFY]
  simp only [eX, eY] at HST HCO
  obtain ⟨C, hC⟩ : ∃ C, C = grA (GV n m M) n m := ⟨_, rfl⟩
  rw [← hC] at IM HM ⊢
  simp only [← hC] at HCO
  have ZZ := Lib.hid zeroRs
  have HSC := Lib.hid (@store_complex Try.prog)
  obtain ⟨m1, m8⟩ := hm
  have B0 := Lib.hid (Below.refl w.heap.size w)
  clear hCS hFX hFY eX eY hC hM hn hu
  go_enter Try.func69, Try.ntmps69
  go_wp2_with (first
    | ((with_reducible refine at_op (Op.box 53 (.tmp 0)) ?_); refine wpList_box_row rfl 53 (.tmp 0) rfl C rfl ?_; intro w1 hr hb hz; have R1_c := Lib.hid hr; have B1 := Lib.hid (joins B0.out hb); clear hr hb hz)
    | ((with_reducible refine at_op (d := some 4) (Op.alloc 83) ?_); refine wpList_alloc_row rfl 83 rfl (rvC V0 8) (fun w => ZZ.out w) ?_; intro w2 hr hb hz; have R2_c := Lib.hid (rowB R1_c.out hb); have R2_r := Lib.hid hr; have N_c_r := Lib.hid (Nat.ne_of_lt (row_lt R1_c.out)); have B2 := Lib.hid (joins B1.out hb); have L_r := Lib.hid (show w.heap.size ≤ w1.heap.size from B1.out.size); clear hr hb hz)
    | ((with_reducible refine at_op (d := some 5) (Op.alloc 83) ?_); refine wpList_alloc_row rfl 83 rfl (rvC V0 8) (fun w => ZZ.out w) ?_; intro w3 hr hb hz; have R3_c := Lib.hid (rowB R2_c.out hb); have R3_r := Lib.hid (rowB R2_r.out hb); have R3_s := Lib.hid hr; have N_c_s := Lib.hid (Nat.ne_of_lt (row_lt R2_c.out)); have N_r_s := Lib.hid (Nat.ne_of_lt (row_lt R2_r.out)); have B3 := Lib.hid (joins B2.out hb); have L_s := Lib.hid (show w.heap.size ≤ w2.heap.size from B2.out.size); have c0 := rowC R3_c.out HM.out; clear hr hb hz))
  clear c0
  go_loopw [9] (fun q wr => ∃ k : Nat, k ≤ m ∧ q = .int .i64 k ∧ wr.heap[w.heap.size]? = some (.cells C 53 (0, 0)) ∧ wr.heap[w1.heap.size]? = some (.cells (rvC V0 8) 83 (0, 0)) ∧ wr.heap[w2.heap.size]? = some (.cells (rvC (CS k) 8) 83 (0, 0)) ∧ Below w.heap.size w wr) (fun q _ => m - (intOf q).toNat)
  case atStart => exact ⟨0, Nat.zero_le _, rfl, R3_c.out, R3_r.out, by rw [H0.out]; exact R3_s.out, B3.out⟩
  case round =>
    obtain ⟨k, hk, rfl, hc, hr, hs, hbel⟩ := hrel
    have RC := Lib.hid hc
    have RR := Lib.hid hr
    have RS := Lib.hid hs
    have RB := Lib.hid hbel
    clear hc hr hs hbel
    by_cases hlt : k < m
    · have h0 : (0 : Int) ≤ (k : Int) := by omega
      have h1 : (k : Int) < (m : Int) := by omega
      have h8 : (k : Int) < 8 := by omega
      have HC1 := Lib.hid (HCO.out k hlt)
      have hst := HST.out k
      obtain ⟨fx, hfx⟩ : ∃ f, f = FX k := ⟨_, rfl⟩
      obtain ⟨fy, hfy⟩ : ∃ f, f = FY k := ⟨_, rfl⟩
      rw [← hfx, ← hfy] at hst HC1
      have HSTk := Lib.hid hst
      clear hst hfx hfy
      go_wp2_with ((with_reducible refine at_op (Op.load 53 (.tmp 2)) ?_); refine wpList_load_part rfl 53 (.tmp 2) rfl (w.heap.size) 0 rfl C C 53 (0, 0) _ RC.out (Part.self _) Try.underlying53 rfl IM.out ?_)
      refine (HC1.out _).mono ?_
      rintro e w5 ⟨rfl, hb⟩
      have RC5 := Lib.hid (rowB RC.out hb)
      have RR5 := Lib.hid (rowB RR.out hb)
      have RS5 := Lib.hid (rowB RS.out hb)
      have RB5 := Lib.hid (joins RB.out hb)
      have cs := rowC RS5.out (rvC_get (CS k) 8 k (by omega))
      unfold cxV at cs
      have fs := rowFree (i := k) RS5.out
      have hst := HSC.out
      clear hb
      go_wp2_with fail
      go_roundw
      case rel => exact ⟨k + 1, by omega, by go_num, (heap_setCell_other w5 ⟨w2.heap.size, k, none⟩ (w.heap.size) _ N_c_s.out).trans RC5.out, (heap_setCell_other w5 ⟨w2.heap.size, k, none⟩ (w1.heap.size) _ N_r_s.out).trans RR5.out, by rw [← HSTk.out]; exact rv_set RS5.out (by omega) fx fy, belows RB5.out L_s.out _⟩
      case measure => simp [intOf]; omega
    · obtain rfl : k = m := by omega
      have IS := Lib.hid (infoRsC (CS k))
      have SS := Lib.hid (rvC_size (CS k) 8)
      have OS := Lib.hid (rvC_one (CS k) 8)
      obtain ⟨D, hD⟩ : ∃ D, D = rvC (CS k) 8 := ⟨_, rfl⟩
      rw [← hD] at RS IS SS OS
      have HD := Lib.hid hD
      clear hD
      go_wp2_with (first
        | ((with_reducible refine at_op (Op.load 83 (.tmp 5)) ?_); refine wpList_load_part rfl 83 (.tmp 5) rfl (w2.heap.size) 0 rfl D D 83 (0, 0) _ RS.out (Part.self _) Try.underlying83 rfl IS.out ?_)
        | ((with_reducible refine at_op (Op.store 83 (.tmp 4) (.tmp 19)) ?_); refine wpList_put_row rfl 83 (.tmp 4) (.tmp 19) rfl (w1.heap.size) D rfl rfl 83 (rvC V0 8) RR.out 8 infoRs SS.out (rvC_size _ _) OS.out w.heap.size w RB.out L_r.out ?_; intro w6 hr hs hb; have R6 := Lib.hid hr; have B6 := Lib.hid hb; clear hr hs hb))
      refine bodyPost_ret (v := .agg D) ?_ rfl ⟨by rw [HD.out], B6.out⟩
      exact results_cell_row Try.results69 _ _ (w1.heap.size) 83 D (0, 0) _ rfl R6.out Try.underlying83 rfl IS.out

set_option maxRecDepth 100000 in
set_option maxHeartbeats 4000000 in
theorem corrIf_any (n m : Nat) (M : Nat → Nat → Int) (hn : 1 ≤ n ∧ n ≤ 8) (hm : 1 ≤ m ∧ m ≤ 8) (u : Nat) (w : World) :
    Calls Try.prog 70 #[.agg (grA (GV n m M) n m), .int .i64 u] w (Ret w (.agg (rvC (ipV n m u) 8))) := by
  have HL := Lib.hid (grA_rows (GV n m M) n m)
  have HM := Lib.hid (grA_cols (GV n m M) n m)
  obtain ⟨C, hC⟩ : ∃ C, C = grA (GV n m M) n m := ⟨_, rfl⟩
  rw [← hC] at HL HM ⊢
  have ZZ := Lib.hid zeroRs
  have HSC := Lib.hid (@store_complex Try.prog)
  have hnm : n * m ≤ 64 := Nat.mul_le_mul hn.2 hm.2
  have hcv := fun w => run_convert_int_float (P := Try.prog) w 3 79 .i64 .f32 ((n * m : Nat) : Int) (by rw [Try.underlying3]; rfl) Try.underlying79
  rw [f32_int64 (n * m) (by omega)] at hcv
  have hpr : (n : Int) * (m : Int) = ((n * m : Nat) : Int) := by push_cast; rfl
  have B0 := Lib.hid (Below.refl w.heap.size w)
  clear hC
  by_cases hu : u = 0
  · subst hu
    rw [ipV_zero]
    obtain ⟨k, hk⟩ : ∃ k, k = n * m := ⟨_, rfl⟩
    rw [← hk] at hcv hpr hnm ⊢
    obtain ⟨f, hf⟩ : ∃ f, f = f32of (k : Int) := ⟨_, rfl⟩
    rw [← hf] at hcv ⊢
    have HPR := Lib.hid hpr
    have HCV := Lib.hid hcv
    have IS := Lib.hid (infoRsC (up V0 0 (f, 0)))
    have SS := Lib.hid (rvC_size (up V0 0 (f, 0)) 8)
    have OS := Lib.hid (rvC_one (up V0 0 (f, 0)) 8)
    obtain ⟨D, hD⟩ : ∃ D, D = rvC (up V0 0 (f, 0)) 8 := ⟨_, rfl⟩
    have HSET := Lib.hid (fun (w' : World) (g : Nat) (h : w'.heap[g]? = some (.cells (rvC V0 8) 83 (0, 0))) => show (w'.setCell ⟨g, 0, none⟩ (.complex .f32 f 0)).heap[g]? = some (.cells D 83 (0, 0)) by rw [hD]; exact rv_set h (by omega) f 0)
    rw [← hD] at IS SS OS ⊢
    clear hD hk hf hcv hpr
    go_enter Try.func70, Try.ntmps70
    go_wp2_with (first
      | ((with_reducible refine at_op (Op.box 53 (.tmp 0)) ?_); refine wpList_box_row rfl 53 (.tmp 0) rfl C rfl ?_; intro w1 hr hb hz; have R1_c := Lib.hid hr; have B1 := Lib.hid (joins B0.out hb); clear hr hb hz)
      | ((with_reducible refine at_op (d := some 4) (Op.alloc 83) ?_); refine wpList_alloc_row rfl 83 rfl (rvC V0 8) (fun w => ZZ.out w) ?_; intro w2 hr hb hz; have R2_c := Lib.hid (rowB R1_c.out hb); have R2_r := Lib.hid hr; have B2 := Lib.hid (joins B1.out hb); have L_r := Lib.hid (show w.heap.size ≤ w1.heap.size from B1.out.size); clear hr hb hz)
      | ((with_reducible refine at_op (d := some 5) (Op.alloc 83) ?_); refine wpList_alloc_row rfl 83 rfl (rvC V0 8) (fun w => ZZ.out w) ?_; intro w3 hr hb hz; have R3_c := Lib.hid (rowB R2_c.out hb); have R3_r := Lib.hid (rowB R2_r.out hb); have R3_s := Lib.hid hr; have N_r_s := Lib.hid (Nat.ne_of_lt (row_lt R2_r.out)); have B3 := Lib.hid (joins B2.out hb); have L_s := Lib.hid (show w.heap.size ≤ w2.heap.size from B2.out.size); have c0 := rowC R3_c.out HL.out; have c1 := rowC R3_c.out HM.out; have cs := rowC R3_s.out (rvC_get V0 8 0 (by omega)); unfold cxV V0 at cs; have fs := rowFree (i := 0) R3_s.out; have hst := HSC.out; have hpr := HPR.out; have hcv := HCV.out; clear hr hb hz)
      | ((with_reducible refine at_op (Op.load 83 (.tmp 5)) ?_); refine wpList_load_part rfl 83 (.tmp 5) rfl (w2.heap.size) 0 rfl D D 83 (0, 0) _ (HSET.out w3 w2.heap.size R3_s.out) (Part.self _) Try.underlying83 rfl IS.out ?_)
      | ((with_reducible refine at_op (Op.store 83 (.tmp 4) (.tmp 16)) ?_); refine wpList_put_row rfl 83 (.tmp 4) (.tmp 16) rfl (w1.heap.size) D rfl rfl 83 (rvC V0 8) ((heap_setCell_other w3 ⟨w2.heap.size, 0, none⟩ (w1.heap.size) _ N_r_s.out).trans R3_r.out) 8 infoRs SS.out (rvC_size _ _) OS.out w.heap.size w (belows B3.out L_s.out _) L_r.out ?_; intro w6 hr hs hb; have R6 := Lib.hid hr; have B6 := Lib.hid hb; clear hr hs hb))
    refine bodyPost_ret (v := .agg D) ?_ rfl ⟨rfl, B6.out⟩
    exact results_cell_row Try.results70 _ _ (w1.heap.size) 83 D (0, 0) _ rfl R6.out Try.underlying83 rfl IS.out
  · rw [ipV_off n m u hu]
    have IS := Lib.hid (infoRsC V0)
    have SS := Lib.hid (rvC_size V0 8)
    have OS := Lib.hid (rvC_one V0 8)
    obtain ⟨D, hD⟩ : ∃ D, D = rvC V0 8 := ⟨_, rfl⟩
    rw [← hD] at IS SS OS ZZ ⊢
    have hu1 : ((u : Int) == 0) = false := by simp; exact hu
    clear hD hcv hpr hu
    go_enter Try.func70, Try.ntmps70
    go_wp2_with (first
      | ((with_reducible refine at_op (Op.box 53 (.tmp 0)) ?_); refine wpList_box_row rfl 53 (.tmp 0) rfl C rfl ?_; intro w1 hr hb hz; have R1_c := Lib.hid hr; have B1 := Lib.hid (joins B0.out hb); clear hr hb hz)
      | ((with_reducible refine at_op (d := some 4) (Op.alloc 83) ?_); refine wpList_alloc_row rfl 83 rfl D (fun w => ZZ.out w) ?_; intro w2 hr hb hz; have R2_r := Lib.hid hr; have B2 := Lib.hid (joins B1.out hb); have L_r := Lib.hid (show w.heap.size ≤ w1.heap.size from B1.out.size); clear hr hb hz)
      | ((with_reducible refine at_op (d := some 5) (Op.alloc 83) ?_); refine wpList_alloc_row rfl 83 rfl D (fun w => ZZ.out w) ?_; intro w3 hr hb hz; have R3_r := Lib.hid (rowB R2_r.out hb); have R3_s := Lib.hid hr; have B3 := Lib.hid (joins B2.out hb); clear hr hb hz)
      | ((with_reducible refine at_op (Op.load 83 (.tmp 5)) ?_); refine wpList_load_part rfl 83 (.tmp 5) rfl (w2.heap.size) 0 rfl D D 83 (0, 0) _ R3_s.out (Part.self _) Try.underlying83 rfl IS.out ?_)
      | ((with_reducible refine at_op (Op.store 83 (.tmp 4) (.tmp 16)) ?_); refine wpList_put_row rfl 83 (.tmp 4) (.tmp 16) rfl (w1.heap.size) D rfl rfl 83 D R3_r.out 8 infoRs SS.out SS.out OS.out w.heap.size w B3.out L_r.out ?_; intro w6 hr hs hb; have R6 := Lib.hid hr; have B6 := Lib.hid hb; clear hr hs hb))
    refine bodyPost_ret (v := .agg D) ?_ rfl ⟨rfl, B6.out⟩
    exact results_cell_row Try.results70 _ _ (w1.heap.size) 83 D (0, 0) _ rfl R6.out Try.underlying83 rfl IS.out

set_option maxRecDepth 100000 in
set_option maxHeartbeats 4000000 in
theorem grPerfect_any (l : List (List Int)) (w : World) : Calls Try.prog 44 #[.agg (gfV l)] w (Ret w (.bool (pwA l))) := by
  have B0 := Lib.hid (Below.refl w.heap.size w)
  cases hok : arOk l with
  | false =>
    have hp : pwA l = false := by unfold pwA; rw [hok]; rfl
    rw [hp, gfV_no hok]
    have HL := Lib.hid (grA_rows G0 0 0)
    have HIS := Lib.hid (grIs_any G0 0 0)
    rw [show decide (1 ≤ 0) = false from rfl] at HIS
    have IM := Lib.hid (infoGrA G0 0 0)
    obtain ⟨C, hC⟩ : ∃ C, C = grA G0 0 0 := ⟨_, rfl⟩
    rw [show (((0 : Nat) : Int)) = 0 from rfl, ← hC] at HIS
    rw [← hC] at HL IM ⊢
    clear hC hp hok
    go_enter Try.func44, Try.ntmps44
    go_wp2_with ((with_reducible refine at_op (Op.box 53 (.tmp 0)) ?_); refine wpList_box_row rfl 53 (.tmp 0) rfl C rfl ?_; intro w1 hr hb hz; have R1 := Lib.hid hr; have B1 := Lib.hid (joins B0.out hb); have c0 := rowC hr HL.out; clear hr hb hz)
    clear c0
    go_loopw [6] (fun q wr => q = .int .i64 0 ∧ wr.heap[w.heap.size]? = some (.cells C 53 (0, 0)) ∧ Below w.heap.size w wr) (fun _ _ => 0)
    case atStart => exact ⟨rfl, R1.out, B1.out⟩
    case round =>
      obtain ⟨rfl, hr, hbel⟩ := hrel
      have HR := Lib.hid hr
      have HB := Lib.hid hbel
      clear hr hbel
      go_wp2_with ((with_reducible refine at_op (Op.load 53 (.tmp 1)) ?_); refine wpList_load_part rfl 53 (.tmp 1) rfl (w.heap.size) 0 rfl C C 53 (0, 0) _ HR.out (Part.self _) Try.underlying53 rfl IM.out ?_)
      refine (HIS.out _).mono ?_
      rintro e w5 ⟨rfl, hb⟩
      have HB2 := Lib.hid (joins HB.out hb)
      clear hb
      go_wp2_with fail
      go_returns
      exact ⟨rfl, HB2.out⟩
  | true =>
    have hp : pwA l = pwB l := by unfold pwA; rw [hok]; rfl
    rw [hp, gfV_yes hok]
    obtain ⟨hn, hm, -⟩ := arOk_parts hok
    have HL := Lib.hid (grA_rows (GV l.length (colsOf l) (atM l)) l.length (colsOf l))
    have HIS := Lib.hid (grIs_any (GV l.length (colsOf l) (atM l)) l.length (colsOf l))
    rw [decide_eq_true hn.1] at HIS
    have IM := Lib.hid (infoGrA (GV l.length (colsOf l) (atM l)) l.length (colsOf l))
    have HCA := Lib.hid (fun (u : Nat) (hu : u < l.length) w' => corrAt_any l.length (colsOf l) (atM l) hn hm (fun i j hi hj => arOk_ph hok i j hi hj) u hu w')
    have HCI := Lib.hid (fun (u : Nat) w' => corrIf_any l.length (colsOf l) (atM l) hn hm u w')
    have HNEQ := Lib.hid (fun (u : Nat) (hu : u < l.length) (w' : World) (t : TypeId) (ht : t = 83) => show (binOp .neq t (.agg (rvC (csV l.length (colsOf l) (atM l) u (colsOf l)) 8)) (.agg (rvC (ipV l.length (colsOf l) u) 8))).run Try.prog w' = .ok (.bool (!(pwRow l u (colsOf l)))) w' by
      rw [run_neq_rs t ht, rs_row l hok u hu])
    have HNO0 := Lib.hid (fun (u : Nat) (hu : u < l.length) (h : pwRow l u (colsOf l) = false) => show pwB l = false by
      cases hb : pwB l with
      | false => rfl
      | true => rw [pw_row hb hu] at h; cases h)
    have HNX0 := Lib.hid (fun (u : Nat) (h : pwTo l u = true) (h2 : pwRow l u (colsOf l) = true) => pwTo_next h h2)
    have HYS := Lib.hid (show pwTo l l.length = pwB l from rfl)
    have HT0 := Lib.hid (show pwTo l 0 = true from rfl)
    obtain ⟨C, hC⟩ : ∃ C, C = grA (GV l.length (colsOf l) (atM l)) l.length (colsOf l) := ⟨_, rfl⟩
    rw [← hC] at HL HIS IM ⊢
    simp only [← hC] at HCA HCI
    obtain ⟨D1, hD1⟩ : ∃ D, D = fun u => rvC (csV l.length (colsOf l) (atM l) u (colsOf l)) 8 := ⟨_, rfl⟩
    obtain ⟨D2, hD2⟩ : ∃ D, D = fun u => rvC (ipV l.length (colsOf l) u) 8 := ⟨_, rfl⟩
    have e1 : ∀ u, rvC (csV l.length (colsOf l) (atM l) u (colsOf l)) 8 = D1 u := fun u => by rw [hD1]
    have e2 : ∀ u, rvC (ipV l.length (colsOf l) u) 8 = D2 u := fun u => by rw [hD2]
    simp only [e1, e2] at HNEQ HCA HCI
    obtain ⟨B, hB⟩ : ∃ B, B = pwB l := ⟨_, rfl⟩
    rw [← hB] at HYS ⊢
    simp only [← hB] at HNO0
    obtain ⟨T, hT⟩ : ∃ T, T = pwTo l := ⟨_, rfl⟩
    obtain ⟨P, hP⟩ : ∃ P : Nat → Bool, P = fun u => pwRow l u (colsOf l) := ⟨_, rfl⟩
    have e3 : ∀ u, pwRow l u (colsOf l) = P u := fun u => by rw [hP]
    simp only [e3] at HNEQ HNO0 HNX0
    rw [← hT] at HYS HT0
    simp only [← hT] at HNX0
    obtain ⟨n, hnn⟩ : ∃ n, n = l.length := ⟨_, rfl⟩
    rw [← hnn] at HL HYS hn
    simp only [← hnn] at HCA HNEQ HNO0
    clear hC hD1 hD2 e1 e2 hB hT hP e3 hnn hp hok hm
    go_enter Try.func44, Try.ntmps44
    go_wp2_with ((with_reducible refine at_op (Op.box 53 (.tmp 0)) ?_); refine wpList_box_row rfl 53 (.tmp 0) rfl C rfl ?_; intro w1 hr hb hz; have R1 := Lib.hid hr; have B1 := Lib.hid (joins B0.out hb); have c0 := rowC hr HL.out; clear hr hb hz)
    clear c0
    go_loopw [6] (fun q wr => ∃ i : Nat, i ≤ n ∧ q = .int .i64 i ∧ T i = true ∧ wr.heap[w.heap.size]? = some (.cells C 53 (0, 0)) ∧ Below w.heap.size w wr) (fun q _ => n - (intOf q).toNat)
    case atStart => exact ⟨0, Nat.zero_le _, rfl, HT0.out, R1.out, B1.out⟩
    case round =>
      obtain ⟨i, hi, rfl, ht, hr, hbel⟩ := hrel
      obtain ⟨wx, hwx⟩ : ∃ wo, wo = wr := ⟨_, rfl⟩
      rw [← hwx] at hr hbel ⊢
      clear hwx
      have HR := Lib.hid hr
      have HB := Lib.hid hbel
      have HT := Lib.hid ht
      clear hr hbel ht
      by_cases hlt : i < n
      · have h0 : (0 : Int) ≤ (i : Int) := by omega
        have h1 : (i : Int) < (n : Int) := by omega
        have HCS := Lib.hid (HCA.out i hlt)
        have HIP := Lib.hid (HCI.out i)
        have hne := fun w' => HNEQ.out i hlt w' 83 rfl
        have hno := HNO0.out i hlt
        have hnx := HNX0.out i HT.out
        obtain ⟨d1, hd1⟩ : ∃ d, d = D1 i := ⟨_, rfl⟩
        obtain ⟨d2, hd2⟩ : ∃ d, d = D2 i := ⟨_, rfl⟩
        obtain ⟨q, hq⟩ : ∃ q, q = P i := ⟨_, rfl⟩
        rw [← hd1] at HCS
        rw [← hd2] at HIP
        simp only [← hd1, ← hd2, ← hq] at hne
        rw [← hq] at hno hnx
        have HNE := Lib.hid hne
        clear hne hd1 hd2 hq
        cases q with
        | true =>
          have HNX := Lib.hid (hnx rfl)
          clear hno hnx
          go_wp2_with fail
          refine wp_region_held_drew (S := (fun w' => World.grownBy wx w' none)) (by kernel_rfl) (grownDrew (World.grownBy.refl _ _)) ?_
          obtain ⟨d1, hdw⟩ : ∃ w', w' = wx.drew := ⟨_, rfl⟩
          rw [← hdw]
          have hb : Below wx.heap.size wx d1 := by rw [hdw]; exact belowN (Below.refl _ _) 1
          have F1_R := Lib.hid (rowB HR.out hb)
          have F1_B := Lib.hid (joins HB.out hb)
          clear hdw hb
          intro hHeld
          refine' wpAnyH_take (i := 0) (v := _) rfl (by kernel_rfl) (by kernel_rfl) (by kernel_rfl) (fun _ _ _ h => h) (yieldsPart (by rfl) 53 (.tmp 1) rfl (w.heap.size) 0 rfl C C 53 (0, 0) _ (fun w h => (rowG HR.out h (by simp))) (Part.self _) Try.underlying53 rfl IM.out) (by assumption) ?rest1
          (try simp only [Act.put, List.getElem_toArray, List.getElem_cons_zero, List.setIfInBounds_toArray, List.set_cons_zero, List.set_cons_succ])
          refine' wpAnyH_take (i := 1) (v := _) rfl (by kernel_rfl) (by kernel_rfl) (by kernel_rfl) (fun _ _ _ h => h) (Or.inl ⟨by rfl, ?hy2⟩) (by assumption) ?rest2
          case hy2 =>
            intro w h
            (try clear h)
            go_simp
            (try with_reducible rfl)
          (try simp only [Act.put, List.getElem_toArray, List.getElem_cons_zero, List.getElem_cons_succ, List.setIfInBounds_toArray, List.set_cons_zero, List.set_cons_succ])
          refine' wpAnyH_take (i := 3) (v := _) rfl (by kernel_rfl) (by kernel_rfl) (by kernel_rfl) (fun _ _ _ h => h) (yieldsPart (by rfl) 53 (.tmp 1) rfl (w.heap.size) 0 rfl C C 53 (0, 0) _ (fun w h => (rowG HR.out h (by simp))) (Part.self _) Try.underlying53 rfl IM.out) (by assumption) ?rest3
          (try simp only [Act.put, List.getElem_toArray, List.getElem_cons_zero, List.getElem_cons_succ, List.setIfInBounds_toArray, List.set_cons_zero, List.set_cons_succ])
          refine' wpAnyH_take (i := 4) (v := _) rfl (by kernel_rfl) (by kernel_rfl) (by kernel_rfl) (fun _ _ _ h => h) (Or.inl ⟨by rfl, ?hy4⟩) (by assumption) ?rest4
          case hy4 =>
            intro w h
            (try clear h)
            go_simp
            (try with_reducible rfl)
          (try simp only [Act.put, List.getElem_toArray, List.getElem_cons_zero, List.getElem_cons_succ, List.setIfInBounds_toArray, List.set_cons_zero, List.set_cons_succ])
          refine wpAnyH_ready (rs := [2]) (by kernel_rfl) (by simp) ?_
          refine AllReadyH.cons rfl (fun K hK => ?_) AllReadyH.nil
          go_simp
          refine (HCS.out _).mono ?_
          rintro e d2 ⟨rfl, hb⟩
          have F2_R := Lib.hid (rowB F1_R.out hb)
          have F2_B := Lib.hid (joins F1_B.out hb)
          have hHeld := grownB hHeld hb
          clear hb
          refine hK.out _ _ hHeld (fun hHeld => ?_)
          clear hK K
          (try simp only [Act.put, List.getElem_toArray, List.getElem_cons_zero, List.getElem_cons_succ, List.setIfInBounds_toArray, List.set_cons_zero, List.set_cons_succ])
          refine wpAnyH_ready (rs := [5]) (by kernel_rfl) (by simp) ?_
          refine AllReadyH.cons rfl (fun K hK => ?_) AllReadyH.nil
          go_simp
          refine (HIP.out _).mono ?_
          rintro e d3 ⟨rfl, hb⟩
          have F3_R := Lib.hid (rowB F2_R.out hb)
          have F3_B := Lib.hid (joins F2_B.out hb)
          have hHeld := grownB hHeld hb
          clear hb
          refine hK.out _ _ hHeld (fun hHeld => ?_)
          clear hK K
          (try simp only [Act.put, List.getElem_toArray, List.getElem_cons_zero, List.getElem_cons_succ, List.setIfInBounds_toArray, List.set_cons_zero, List.set_cons_succ])
          refine' wpAnyH_take (i := 6) (v := _) rfl (by kernel_rfl) (by kernel_rfl) (by kernel_rfl) (fun _ _ _ h => h) (Or.inl ⟨by rfl, ?hy5⟩) (by assumption) ?rest5
          case hy5 =>
            intro w h
            have c1 := HNE.out
            (try clear h)
            go_simp
            (try with_reducible rfl)
          (try simp only [Act.put, List.getElem_toArray, List.getElem_cons_zero, List.getElem_cons_succ, List.setIfInBounds_toArray, List.set_cons_zero, List.set_cons_succ])
          refine wpAnyH_done (by kernel_rfl) ?_ _
          go_wp2_with fail
          go_roundw
          case rel => exact ⟨i + 1, by omega, by go_num, HNX.out, F3_R.out, F3_B.out⟩
          case measure => simp [intOf]; omega
        | false =>
          have HNO := Lib.hid (hno rfl)
          clear hno hnx
          go_wp2_with fail
          refine wp_region_held_drew (S := (fun w' => World.grownBy wx w' none)) (by kernel_rfl) (grownDrew (World.grownBy.refl _ _)) ?_
          obtain ⟨d1, hdw⟩ : ∃ w', w' = wx.drew := ⟨_, rfl⟩
          rw [← hdw]
          have hb : Below wx.heap.size wx d1 := by rw [hdw]; exact belowN (Below.refl _ _) 1
          have F1_R := Lib.hid (rowB HR.out hb)
          have F1_B := Lib.hid (joins HB.out hb)
          clear hdw hb
          intro hHeld
          refine' wpAnyH_take (i := 0) (v := _) rfl (by kernel_rfl) (by kernel_rfl) (by kernel_rfl) (fun _ _ _ h => h) (yieldsPart (by rfl) 53 (.tmp 1) rfl (w.heap.size) 0 rfl C C 53 (0, 0) _ (fun w h => (rowG HR.out h (by simp))) (Part.self _) Try.underlying53 rfl IM.out) (by assumption) ?rest1001
          (try simp only [Act.put, List.getElem_toArray, List.getElem_cons_zero, List.setIfInBounds_toArray, List.set_cons_zero, List.set_cons_succ])
          refine' wpAnyH_take (i := 1) (v := _) rfl (by kernel_rfl) (by kernel_rfl) (by kernel_rfl) (fun _ _ _ h => h) (Or.inl ⟨by rfl, ?hy1002⟩) (by assumption) ?rest1002
          case hy1002 =>
            intro w h
            (try clear h)
            go_simp
            (try with_reducible rfl)
          (try simp only [Act.put, List.getElem_toArray, List.getElem_cons_zero, List.getElem_cons_succ, List.setIfInBounds_toArray, List.set_cons_zero, List.set_cons_succ])
          refine' wpAnyH_take (i := 3) (v := _) rfl (by kernel_rfl) (by kernel_rfl) (by kernel_rfl) (fun _ _ _ h => h) (yieldsPart (by rfl) 53 (.tmp 1) rfl (w.heap.size) 0 rfl C C 53 (0, 0) _ (fun w h => (rowG HR.out h (by simp))) (Part.self _) Try.underlying53 rfl IM.out) (by assumption) ?rest1003
          (try simp only [Act.put, List.getElem_toArray, List.getElem_cons_zero, List.getElem_cons_succ, List.setIfInBounds_toArray, List.set_cons_zero, List.set_cons_succ])
          refine' wpAnyH_take (i := 4) (v := _) rfl (by kernel_rfl) (by kernel_rfl) (by kernel_rfl) (fun _ _ _ h => h) (Or.inl ⟨by rfl, ?hy1004⟩) (by assumption) ?rest1004
          case hy1004 =>
            intro w h
            (try clear h)
            go_simp
            (try with_reducible rfl)
          (try simp only [Act.put, List.getElem_toArray, List.getElem_cons_zero, List.getElem_cons_succ, List.setIfInBounds_toArray, List.set_cons_zero, List.set_cons_succ])
          refine wpAnyH_ready (rs := [2]) (by kernel_rfl) (by simp) ?_
          refine AllReadyH.cons rfl (fun K hK => ?_) AllReadyH.nil
          go_simp
          refine (HCS.out _).mono ?_
          rintro e d2 ⟨rfl, hb⟩
          have F2_R := Lib.hid (rowB F1_R.out hb)
          have F2_B := Lib.hid (joins F1_B.out hb)
          have hHeld := grownB hHeld hb
          clear hb
          refine hK.out _ _ hHeld (fun hHeld => ?_)
          clear hK K
          (try simp only [Act.put, List.getElem_toArray, List.getElem_cons_zero, List.getElem_cons_succ, List.setIfInBounds_toArray, List.set_cons_zero, List.set_cons_succ])
          refine wpAnyH_ready (rs := [5]) (by kernel_rfl) (by simp) ?_
          refine AllReadyH.cons rfl (fun K hK => ?_) AllReadyH.nil
          go_simp
          refine (HIP.out _).mono ?_
          rintro e d3 ⟨rfl, hb⟩
          have F3_R := Lib.hid (rowB F2_R.out hb)
          have F3_B := Lib.hid (joins F2_B.out hb)
          have hHeld := grownB hHeld hb
          clear hb
          refine hK.out _ _ hHeld (fun hHeld => ?_)
          clear hK K
          (try simp only [Act.put, List.getElem_toArray, List.getElem_cons_zero, List.getElem_cons_succ, List.setIfInBounds_toArray, List.set_cons_zero, List.set_cons_succ])
          refine' wpAnyH_take (i := 6) (v := _) rfl (by kernel_rfl) (by kernel_rfl) (by kernel_rfl) (fun _ _ _ h => h) (Or.inl ⟨by rfl, ?hy1005⟩) (by assumption) ?rest1005
          case hy1005 =>
            intro w h
            have c1 := HNE.out
            (try clear h)
            go_simp
            (try with_reducible rfl)
          (try simp only [Act.put, List.getElem_toArray, List.getElem_cons_zero, List.getElem_cons_succ, List.setIfInBounds_toArray, List.set_cons_zero, List.set_cons_succ])
          refine wpAnyH_done (by kernel_rfl) ?_ _
          go_wp2_with fail
          go_returns
          exact ⟨ret_bool HNO.out.symm, F3_B.out⟩
      · obtain rfl : i = n := by omega
        have HY := Lib.hid (show B = true by rw [← HYS.out]; exact HT.out)
        go_wp2_with ((with_reducible refine at_op (Op.load 53 (.tmp 1)) ?_); refine wpList_load_part rfl 53 (.tmp 1) rfl (w.heap.size) 0 rfl C C 53 (0, 0) _ HR.out (Part.self _) Try.underlying53 rfl IM.out ?_)
        refine (HIS.out _).mono ?_
        rintro e w5 ⟨rfl, hb⟩
        have HB2 := Lib.hid (joins HB.out hb)
        clear hb
        go_wp2_with fail
        go_returns
        exact ⟨ret_bool HY.out.symm, HB2.out⟩

set_option maxRecDepth 100000 in
set_option maxHeartbeats 2000000 in
theorem iisPerfectArray (v : Value) (l : List (List Int)) (w : World) (hv : IR w v l) (hl : sz2 l ≤ 1048576) : Calls Try.prog 19 #[v] w (Ret w (.tuple #[.bool (pwA l), .bool (arOk l)])) := by
  have HF := Lib.hid (gridFrom_any v l w hv hl)
  have HPF := Lib.hid (grPerfect_any l)
  have HIS := Lib.hid (grIs_any (GV (gfN l) (gfM l) (atM l)) (gfN l) (gfM l))
  rw [show decide (1 ≤ gfN l) = arOk l from by
    unfold gfN
    cases h : arOk l with
    | false => rfl
    | true => rw [if_pos rfl]; exact decide_eq_true (arOk_parts h).1.1] at HIS
  rw [show grA (GV (gfN l) (gfM l) (atM l)) (gfN l) (gfM l) = gfV l from rfl] at HIS
  have SC := Lib.hid (show (gfV l).size = 66 from grA_size _ _ _)
  have OC := Lib.hid (show (gfV l).all (·.oneCell') = true from grA_one _ _ _)
  have IM := Lib.hid (show (Try.prog.info? 53).map (·.size) = some (gfV l).size from infoGrA _ _ _)
  have ZZ := Lib.hid zeroGr
  obtain ⟨C, hC⟩ : ∃ C, C = gfV l := ⟨_, rfl⟩
  rw [← hC] at HF HPF HIS SC OC IM
  obtain ⟨X, hX⟩ : ∃ X, X = pwA l := ⟨_, rfl⟩
  obtain ⟨Y, hY⟩ : ∃ X, X = arOk l := ⟨_, rfl⟩
  rw [← hX] at HPF ⊢
  rw [← hY] at HIS ⊢
  obtain ⟨pa, cap, rfl⟩ := hv.slice
  clear hv hl hC hX hY
  go_enter Try.func19, Try.ntmps19
  go_wp2_with fail
  refine (HF.out).mono ?_
  rintro e w1 ⟨rfl, hb⟩
  have B1 := Lib.hid hb
  clear hb
  go_wp2_with (first
    | ((with_reducible refine at_op (d := some 4) (Op.alloc 53) ?_); refine wpList_alloc_row rfl 53 rfl (grA G0 0 0) (fun w => ZZ.out w) ?_; intro w2 hr hb hz; have R2 := Lib.hid hr; have B2 := Lib.hid (joins B1.out hb); have L2 := Lib.hid (show w.heap.size ≤ w1.heap.size from B1.out.size); clear hr hb hz)
    | ((with_reducible refine at_op (Op.store 53 (.tmp 4) (.tmp 6)) ?_); refine wpList_put_row rfl 53 (.tmp 4) (.tmp 6) rfl (w1.heap.size) C rfl rfl 53 (grA G0 0 0) R2.out 66 infoGr SC.out (grA_size _ _ _) OC.out w.heap.size w B2.out L2.out ?_; intro w3 hr hs hb; have HR := Lib.hid hr; have HB := Lib.hid hb; clear hr hs hb))
  refine wp_region_held_drew (S := (fun w' => World.grownBy w3 w' none)) (by kernel_rfl) (grownDrew (World.grownBy.refl _ _)) ?_
  obtain ⟨d1, hdw⟩ : ∃ w', w' = w3.drew := ⟨_, rfl⟩
  rw [← hdw]
  have hb : Below w3.heap.size w3 d1 := by rw [hdw]; exact belowN (Below.refl _ _) 1
  have F1_R := Lib.hid (rowB HR.out hb)
  have F1_B := Lib.hid (joins HB.out hb)
  clear hdw hb
  intro hHeld
  refine' wpAnyH_take (i := 0) (v := _) rfl (by kernel_rfl) (by kernel_rfl) (by kernel_rfl) (fun _ _ _ h => h) (yieldsPart (by rfl) 53 (.tmp 4) rfl (w1.heap.size) 0 rfl C C 53 (0, 0) _ (fun w h => (rowG HR.out h (by simp))) (Part.self _) Try.underlying53 rfl IM.out) (by assumption) ?rest1
  (try simp only [Act.put, List.getElem_toArray, List.getElem_cons_zero, List.setIfInBounds_toArray, List.set_cons_zero, List.set_cons_succ])
  refine' wpAnyH_take (i := 2) (v := _) rfl (by kernel_rfl) (by kernel_rfl) (by kernel_rfl) (fun _ _ _ h => h) (yieldsPart (by rfl) 53 (.tmp 4) rfl (w1.heap.size) 0 rfl C C 53 (0, 0) _ (fun w h => (rowG HR.out h (by simp))) (Part.self _) Try.underlying53 rfl IM.out) (by assumption) ?rest2
  (try simp only [Act.put, List.getElem_toArray, List.getElem_cons_zero, List.getElem_cons_succ, List.setIfInBounds_toArray, List.set_cons_zero, List.set_cons_succ])
  refine wpAnyH_ready (rs := [1]) (by kernel_rfl) (by simp) ?_
  refine AllReadyH.cons rfl (fun K hK => ?_) AllReadyH.nil
  go_simp
  refine (HPF.out _).mono ?_
  rintro e d2 ⟨rfl, hb⟩
  have F2_R := Lib.hid (rowB F1_R.out hb)
  have F2_B := Lib.hid (joins F1_B.out hb)
  have hHeld := grownB hHeld hb
  clear hb
  refine hK.out _ _ hHeld (fun hHeld => ?_)
  clear hK K
  (try simp only [Act.put, List.getElem_toArray, List.getElem_cons_zero, List.getElem_cons_succ, List.setIfInBounds_toArray, List.set_cons_zero, List.set_cons_succ])
  refine wpAnyH_ready (rs := [3]) (by kernel_rfl) (by simp) ?_
  refine AllReadyH.cons rfl (fun K hK => ?_) AllReadyH.nil
  go_simp
  refine (HIS.out _).mono ?_
  rintro e d3 ⟨rfl, hb⟩
  have F3_R := Lib.hid (rowB F2_R.out hb)
  have F3_B := Lib.hid (joins F2_B.out hb)
  have hHeld := grownB hHeld hb
  clear hb
  refine hK.out _ _ hHeld (fun hHeld => ?_)
  clear hK K
  (try simp only [Act.put, List.getElem_toArray, List.getElem_cons_zero, List.getElem_cons_succ, List.setIfInBounds_toArray, List.set_cons_zero, List.set_cons_succ])
  refine' wpAnyH_take (i := 4) (v := _) rfl (by kernel_rfl) (by kernel_rfl) (by kernel_rfl) (fun _ _ _ h => h) (Or.inl ⟨by rfl, ?hy3⟩) (by assumption) ?rest3
  case hy3 =>
    intro w h
    (try clear h)
    go_simp
    (try with_reducible rfl)
  (try simp only [Act.put, List.getElem_toArray, List.getElem_cons_zero, List.getElem_cons_succ, List.setIfInBounds_toArray, List.set_cons_zero, List.set_cons_succ])
  refine' wpAnyH_take (i := 5) (v := _) rfl (by kernel_rfl) (by kernel_rfl) (by kernel_rfl) (fun _ _ _ h => h) (Or.inl ⟨by rfl, ?hy4⟩) (by assumption) ?rest4
  case hy4 =>
    intro w h
    (try clear h)
    go_simp
    (try with_reducible rfl)
  (try simp only [Act.put, List.getElem_toArray, List.getElem_cons_zero, List.getElem_cons_succ, List.setIfInBounds_toArray, List.set_cons_zero, List.set_cons_succ])
  refine wpAnyH_done (by kernel_rfl) ?_ _
  go_wp2_with fail
  go_returns
  exact ⟨rfl, F3_B.out⟩
end Go.Proofs.Ytjoepdflbbcliab
