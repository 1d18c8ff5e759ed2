/- The program's moves of matrices as values: out of loops over their cells. -/
import Derived.Test.YtbppbkoppbnodaaIMa
import Derived.Test.YtbppbkoppbnodaaMxL
import Derived.Deep.QuietTactic
import Derived.BigQuiet
import Derived.BigRegion
namespace Go.Proofs.Ytbppbkoppbnodaa
set_option maxRecDepth 100000
open Go.RowKit

theorem cell_row {w : World} {g c : Nat} {V : Nat → Nat × Nat} {n : Int} {t : TypeId} (h : w.heap[g]? = some (.cells (mxC V n) t (0, 0))) (hc : c < 64) : w.cell? ⟨g, c, none⟩ = some (.complex .f32 (V c).1 (V c).2) := rowC h (mxC_get V n c hc)
theorem set_row {w : World} {g c : Nat} {V : Nat → Nat × Nat} {n : Int} {t : TypeId} (h : w.heap[g]? = some (.cells (mxC V n) t (0, 0))) (hc : c < 64) (x : Nat × Nat) :
    (w.setCell ⟨g, c, none⟩ (.complex .f32 x.1 x.2)).heap[g]? = some (.cells (mxC (up V c x) n) t (0, 0)) := by
  have := heap_setCell_same w g c _ _ (.complex .f32 x.1 x.2) h
  rwa [show (mxC V n).setIfInBounds c (.complex .f32 x.1 x.2) = mxC (up V c x) n from mxC_set V n c hc x] at this

set_option maxRecDepth 100000 in
set_option maxHeartbeats 4000000 in
theorem turnedOver_any (V : Nat → Nat × Nat) (n : Nat) (hn : n ≤ 8) (w : World) : Calls Try.prog 46 #[.agg (mxC V n)] w (Ret w (.agg (mxC (sqV n (fun c => V (c % 8 * 8 + c / 8)) V0) n))) := by
  obtain ⟨F, hF⟩ : ∃ F : Nat → Nat × Nat, F = fun c => V (c % 8 * 8 + c / 8) := ⟨_, rfl⟩
  rw [← hF]
  have HF := Lib.hid hF
  clear hF
  have HL := Lib.hid (mxC_side V n)
  have HBU := Lib.hid (builtMx n)
  have ZZ := Lib.hid zeroMx
  have B0 := Lib.hid (Below.refl w.heap.size w)
  go_enter Try.func46, Try.ntmps46
  go_wp2_with (first
    | ((with_reducible refine at_op (Op.box 41 (.tmp 0)) ?_); refine wpList_box_row rfl 41 (.tmp 0) rfl (mxC V n) rfl ?_; intro w1 hr hb hz; have R1_m := Lib.hid hr; have B1 := Lib.hid (joins B0.out hb); have L1_m := Lib.hid (show w.heap.size ≤ w.heap.size from B0.out.size); have c0 := rowC hr HL.out; clear hr hb hz)
    | ((with_reducible refine at_op (d := some 2) (Op.alloc 41) ?_); refine wpList_alloc_row rfl 41 rfl (mxC V0 0) (fun w => ZZ.out w) ?_; intro w2 hr hb hz; have N2_m_r := Lib.hid (Nat.ne_of_lt (row_lt R1_m.out)); have N2_r_m := Lib.hid (Ne.symm N2_m_r.out); have R2_m := Lib.hid (rowB R1_m.out hb); have R2_r := Lib.hid hr; have B2 := Lib.hid (joins B1.out hb); have L2_r := Lib.hid (show w.heap.size ≤ w1.heap.size from B1.out.size); have c0 := rowC R2_m.out HL.out; clear hr hb hz)
    | ((with_reducible refine at_op (Op.build 41 #[(1, .tmp 7)]) ?_); refine wpList_build_row rfl 41 [(1, .tmp 7)] rfl (mxC V0 n) HBU.out ?_)
    | ((with_reducible refine at_op (d := some 3) (Op.alloc 41) ?_); refine wpList_alloc_row rfl 41 rfl (mxC V0 0) (fun w => ZZ.out w) ?_; intro w3 hr hb hz; have N3_m_o := Lib.hid (Nat.ne_of_lt (row_lt R2_m.out)); have N3_o_m := Lib.hid (Ne.symm N3_m_o.out); have N3_r_o := Lib.hid (Nat.ne_of_lt (row_lt R2_r.out)); have N3_o_r := Lib.hid (Ne.symm N3_r_o.out); have R3_m := Lib.hid (rowB R2_m.out hb); have R3_r := Lib.hid (rowB R2_r.out hb); have R3_o := Lib.hid hr; have B3 := Lib.hid (joins B2.out hb); have L3_o := Lib.hid (show w.heap.size ≤ w2.heap.size from B2.out.size); have c0 := rowC R3_m.out HL.out; clear hr hb hz)
    | ((with_reducible refine at_op (Op.store 41 (.tmp 3) (.tmp 8)) ?_); refine wpList_put_row rfl 41 (.tmp 3) (.tmp 8) rfl (w2.heap.size) (mxC V0 n) rfl rfl 41 (mxC V0 0) R3_o.out 65 infoMx (mxC_size _ _) (mxC_size _ _) (mxC_one _ _) w.heap.size w B3.out L3_o.out ?_; intro w4 hr hs hb; have R4_m := Lib.hid (hs.row R3_m.out N3_m_o.out); have R4_r := Lib.hid (hs.row R3_r.out N3_r_o.out); have R4_o := Lib.hid hr; have B4 := Lib.hid hb; have c0 := rowC R4_m.out HL.out; clear hr hs hb))
  have LR := Lib.hid L2_r.out
  have LO := Lib.hid L3_o.out
  have NMO := Lib.hid N3_m_o.out
  have NRO := Lib.hid N3_r_o.out
  have NOR := Lib.hid N3_o_r.out
  have NMR := Lib.hid N2_m_r.out
  have RM0 := Lib.hid R4_m.out
  have RR0 := Lib.hid R4_r.out
  have RO0 := Lib.hid R4_o.out
  have BB0 := Lib.hid B4.out
  go_loopw [11] (fun i wr => ∃ a : Nat, a ≤ n ∧ i = .int .i64 a ∧ wr.heap[w.heap.size]? = some (.cells (mxC V n) 41 (0, 0)) ∧ wr.heap[w1.heap.size]? = some (.cells (mxC V0 0) 41 (0, 0)) ∧ wr.heap[w2.heap.size]? = some (.cells (mxC (pgC n a 0 F V0) n) 41 (0, 0)) ∧ Below w.heap.size w wr) (fun i _ => n - (intOf i).toNat)
  case atStart => exact ⟨0, Nat.zero_le _, rfl, RM0.out, RR0.out, by rw [pgC_start]; exact RO0.out, BB0.out⟩
  case round =>
    obtain ⟨a, ha, rfl, hm, hr, ho, hbel⟩ := hrel
    have RM := Lib.hid hm
    have RR := Lib.hid hr
    have RO := Lib.hid ho
    have BR := Lib.hid hbel
    have c0 := rowC hm HL.out
    clear hm hr ho hbel
    generalize hwo : wr = wo at *
    clear hwo
    by_cases hlt : a < n
    · have h0 : (0 : Int) ≤ (a : Int) := by omega
      have h1 : (a : Int) < (n : Int) := by omega
      go_wp2_with fail
      go_loopw [16] (fun i wr => ∃ b : Nat, b ≤ n ∧ i = .int .i64 b ∧ wr.heap[w.heap.size]? = some (.cells (mxC V n) 41 (0, 0)) ∧ wr.heap[w1.heap.size]? = some (.cells (mxC V0 0) 41 (0, 0)) ∧ wr.heap[w2.heap.size]? = some (.cells (mxC (pgC n a b F V0) n) 41 (0, 0)) ∧ Below w.heap.size w wr) (fun i _ => n - (intOf i).toNat)
      case atStart => exact ⟨0, Nat.zero_le _, rfl, RM.out, RR.out, RO.out, BR.out⟩
      case round =>
        obtain ⟨b, hb, rfl, hm, hr, ho, hbel⟩ := hrel
        have RM2 := Lib.hid hm
        have RR2 := Lib.hid hr
        have RO2 := Lib.hid ho
        have BR2 := Lib.hid hbel
        have c0 := rowC hm HL.out
        clear hm hr ho hbel
        by_cases hlb : b < n
        · have h0b : (0 : Int) ≤ (b : Int) := by omega
          have h1b : (b : Int) < (n : Int) := by omega
          have h8a : (a : Int) < 8 := by omega
          have h8b : (b : Int) < 8 := by omega
          have cs := cell_row RM2.out (c := a * 8 + b) (by omega)
          have ct := cell_row RO2.out (c := b * 8 + a) (by omega)
          have ft := rowFree (i := b * 8 + a) RO2.out
          have hset := set_row RO2.out (c := b * 8 + a) (by omega) (V (a * 8 + b))
          have hFb : V (a * 8 + b) = F (b * 8 + a) := by rw [HF.out]; simp only []; congr 1; omega
          rw [hFb] at hset cs
          rw [pgC_step n a b F V0 hn hlt hlb] at hset
          have hm2 := (heap_setCell_other wr ⟨w2.heap.size, b * 8 + a, none⟩ (w.heap.size) (.complex .f32 (F (b * 8 + a)).1 (F (b * 8 + a)).2) NMO.out).trans RM2.out
          have hr2 := (heap_setCell_other wr ⟨w2.heap.size, b * 8 + a, none⟩ (w1.heap.size) (.complex .f32 (F (b * 8 + a)).1 (F (b * 8 + a)).2) NRO.out).trans RR2.out
          have hb2 := BR2.out.setCell (p := ⟨w2.heap.size, b * 8 + a, none⟩) LO.out (.complex .f32 (F (b * 8 + a)).1 (F (b * 8 + a)).2)
          obtain ⟨x, hx⟩ : ∃ x, x = (F (b * 8 + a)).1 := ⟨_, rfl⟩
          obtain ⟨y, hy⟩ : ∃ x, x = (F (b * 8 + a)).2 := ⟨_, rfl⟩
          obtain ⟨x', hx'⟩ : ∃ x, x = (pgC n a b F V0 (b * 8 + a)).1 := ⟨_, rfl⟩
          obtain ⟨y', hy'⟩ : ∃ x, x = (pgC n a b F V0 (b * 8 + a)).2 := ⟨_, rfl⟩
          rw [← hx, ← hy] at hset cs hm2 hr2 hb2
          rw [← hx', ← hy'] at ct
          have S2 := Lib.hid hset
          have M2 := Lib.hid hm2
          have R2 := Lib.hid hr2
          have B2 := Lib.hid hb2
          clear hset hm2 hr2 hb2 hFb hx hy hx' hy'
          have hst := @store_complex Try.prog
          go_wp2_with fail
          go_region
          go_wp2_with fail
          go_roundw
          case rel => exact ⟨b + 1, by omega, by go_num, M2.out, R2.out, S2.out, belowN B2.out 1⟩
          case measure => simp [intOf]; omega
        · obtain rfl : n = b := by omega
          go_wp2_with fail
          go_roundw
          case rel => exact ⟨a + 1, by omega, by go_num, RM2.out, RR2.out, by rw [← pgC_row]; exact RO2.out, BR2.out⟩
          case measure => simp [intOf]; omega
    · obtain rfl : n = a := by omega
      rw [pgC_end] at RO
      have IW := Lib.hid (infoMxC (sqV n F V0) n)
      obtain ⟨W, hW⟩ : ∃ W, W = mxC (sqV n F V0) n := ⟨_, rfl⟩
      have SW := Lib.hid (mxC_size (sqV n F V0) n)
      have OW := Lib.hid (mxC_one (sqV n F V0) n)
      rw [← hW] at RO IW SW OW
      have HW := Lib.hid hW
      clear hW
      go_wp2_with (first
        | ((with_reducible refine at_op (Op.load 41 (.tmp 3)) ?_); refine wpList_load_part rfl 41 (.tmp 3) rfl (w2.heap.size) 0 rfl W W 41 (0, 0) _ RO.out (Part.self _) Try.underlying41 rfl IW.out ?_)
        | ((with_reducible refine at_op (Op.store 41 (.tmp 2) (.tmp 32)) ?_); refine wpList_put_row rfl 41 (.tmp 2) (.tmp 32) rfl (w1.heap.size) W rfl rfl 41 (mxC V0 0) RR.out 65 infoMx SW.out (mxC_size _ _) OW.out w.heap.size w BR.out LR.out ?_; intro w11 hr hs hb; have R11_o := Lib.hid (hs.row RO.out NOR.out); have R11_r := Lib.hid hr; have B11 := Lib.hid hb; clear hr hs hb))
      refine bodyPost_ret (v := .agg W) ?_ rfl ⟨by rw [HW.out], B11.out⟩
      exact results_cell_row Try.results46 _ _ (w1.heap.size) 41 W (0, 0) _ rfl R11_r.out Try.underlying41 rfl IW.out

set_option maxRecDepth 100000 in
set_option maxHeartbeats 4000000 in
theorem conjugateM_any (V : Nat → Nat × Nat) (n : Nat) (hn : n ≤ 8) (w : World) : Calls Try.prog 48 #[.agg (mxC V n)] w (Ret w (.agg (mxC (sqV n (fun c => cj (V c)) V) n))) := by
  obtain ⟨F, hF⟩ : ∃ F : Nat → Nat × Nat, F = fun c => cj (V c) := ⟨_, rfl⟩
  rw [← hF]
  have HF := Lib.hid hF
  clear hF
  have HL := Lib.hid (mxC_side V n)
  have ZZ := Lib.hid zeroMx
  have B0 := Lib.hid (Below.refl w.heap.size w)
  go_enter Try.func48, Try.ntmps48
  go_wp2_with (first
    | ((with_reducible refine at_op (Op.box 41 (.tmp 0)) ?_); refine wpList_box_row rfl 41 (.tmp 0) rfl (mxC V n) rfl ?_; intro w1 hr hb hz; have R1_m := Lib.hid hr; have B1 := Lib.hid (joins B0.out hb); have L1_m := Lib.hid (show w.heap.size ≤ w.heap.size from B0.out.size); have c0 := rowC hr HL.out; clear hr hb hz)
    | ((with_reducible refine at_op (d := some 2) (Op.alloc 41) ?_); refine wpList_alloc_row rfl 41 rfl (mxC V0 0) (fun w => ZZ.out w) ?_; intro w2 hr hb hz; have N2_m_r := Lib.hid (Nat.ne_of_lt (row_lt R1_m.out)); have N2_r_m := Lib.hid (Ne.symm N2_m_r.out); have R2_m := Lib.hid (rowB R1_m.out hb); have R2_r := Lib.hid hr; have B2 := Lib.hid (joins B1.out hb); have L2_r := Lib.hid (show w.heap.size ≤ w1.heap.size from B1.out.size); have c0 := rowC R2_m.out HL.out; clear hr hb hz))
  have LR := Lib.hid L2_r.out
  have NMR := Lib.hid N2_m_r.out
  have NRM := Lib.hid N2_r_m.out
  have RM0 := Lib.hid R2_m.out
  have RR0 := Lib.hid R2_r.out
  have BB0 := Lib.hid B2.out
  have LM := Lib.hid (Nat.le_refl w.heap.size)
  go_loopw [7] (fun q wr => ∃ a : Nat, a ≤ n ∧ q = .int .i64 a ∧ wr.heap[w.heap.size]? = some (.cells (mxC (pgR n a 0 F V) n) 41 (0, 0)) ∧ wr.heap[w1.heap.size]? = some (.cells (mxC V0 0) 41 (0, 0)) ∧ Below w.heap.size w wr) (fun q _ => n - (intOf q).toNat)
  case atStart => exact ⟨0, Nat.zero_le _, rfl, by rw [pgR_start]; exact RM0.out, RR0.out, BB0.out⟩
  case round =>
    obtain ⟨a, ha, rfl, hm, hr, hbel⟩ := hrel
    have RM := Lib.hid hm
    have RR := Lib.hid hr
    have BR := Lib.hid hbel
    have c0 := rowC hm (mxC_side _ _)
    clear hm hr hbel
    generalize hwo : wr = wo at *
    clear hwo
    by_cases hlt : a < n
    · have h0 : (0 : Int) ≤ (a : Int) := by omega
      have h1 : (a : Int) < (n : Int) := by omega
      go_wp2_with fail
      go_loopw [12] (fun q wr => ∃ b : Nat, b ≤ n ∧ q = .int .i64 b ∧ wr.heap[w.heap.size]? = some (.cells (mxC (pgR n a b F V) n) 41 (0, 0)) ∧ wr.heap[w1.heap.size]? = some (.cells (mxC V0 0) 41 (0, 0)) ∧ Below w.heap.size w wr) (fun q _ => n - (intOf q).toNat)
      case atStart => exact ⟨0, Nat.zero_le _, rfl, RM.out, RR.out, BR.out⟩
      case round =>
        obtain ⟨b, hb, rfl, hm, hr, hbel⟩ := hrel
        have RM2 := Lib.hid hm
        have RR2 := Lib.hid hr
        have BR2 := Lib.hid hbel
        have c0 := rowC hm (mxC_side _ _)
        clear hm hr hbel
        by_cases hlb : b < n
        · have h0b : (0 : Int) ≤ (b : Int) := by omega
          have h1b : (b : Int) < (n : Int) := by omega
          have h8a : (a : Int) < 8 := by omega
          have h8b : (b : Int) < 8 := by omega
          have cs := cell_row RM2.out (c := a * 8 + b) (by omega)
          rw [pgR_at n a b F V hn hlb] at cs
          have ft := rowFree (i := a * 8 + b) RM2.out
          have hset := set_row RM2.out (c := a * 8 + b) (by omega) (F (a * 8 + b))
          rw [pgR_step n a b F V hn hlt hlb] at hset
          have hFb : F (a * 8 + b) = ((V (a * 8 + b)).1, f32neg (V (a * 8 + b)).2) := by rw [HF.out]; rfl
          rw [hFb] at hset
          obtain ⟨x, hx⟩ : ∃ x, x = (V (a * 8 + b)).1 := ⟨_, rfl⟩
          obtain ⟨y, hy⟩ : ∃ x, x = (V (a * 8 + b)).2 := ⟨_, rfl⟩
          rw [← hx, ← hy] at hset cs
          have HC := Lib.hid (conjugateValue_any x y)
          obtain ⟨z, hz⟩ : ∃ x, x = f32neg y := ⟨_, rfl⟩
          rw [← hz] at hset HC
          have hr2 := (heap_setCell_other wr ⟨w.heap.size, a * 8 + b, none⟩ (w1.heap.size) (.complex .f32 x z) NRM.out).trans RR2.out
          have hb2 := BR2.out.setCell (p := ⟨w.heap.size, a * 8 + b, none⟩) LM.out (.complex .f32 x z)
          have S2 := Lib.hid hset
          have R2 := Lib.hid hr2
          have B2 := Lib.hid hb2
          clear hset hr2 hb2 hFb hx hy hz
          have hst := @store_complex Try.prog
          go_wp2_with fail
          go_region_with (go_at_call 66; refine (HC.out _).mono ?_; rintro e w' ⟨rfl, rfl⟩)
          go_wp2_with fail
          go_roundw
          case rel => exact ⟨b + 1, by omega, by go_num, S2.out, R2.out, belowN B2.out 1⟩
          case measure => simp [intOf]; omega
        · obtain rfl : n = b := by omega
          go_wp2_with fail
          go_roundw
          case rel => exact ⟨a + 1, by omega, by go_num, by rw [← pgR_row]; exact RM2.out, RR2.out, BR2.out⟩
          case measure => simp [intOf]; omega
    · obtain rfl : n = a := by omega
      rw [pgR_end] at RM
      have IW := Lib.hid (infoMxC (sqV n F V) n)
      obtain ⟨W, hW⟩ : ∃ W, W = mxC (sqV n F V) n := ⟨_, rfl⟩
      have SW := Lib.hid (mxC_size (sqV n F V) n)
      have OW := Lib.hid (mxC_one (sqV n F V) n)
      rw [← hW] at RM IW SW OW
      have HW := Lib.hid hW
      clear hW
      go_wp2_with (first
        | ((with_reducible refine at_op (Op.load 41 (.tmp 1)) ?_); refine wpList_load_part rfl 41 (.tmp 1) rfl (w.heap.size) 0 rfl W W 41 (0, 0) _ RM.out (Part.self _) Try.underlying41 rfl IW.out ?_)
        | ((with_reducible refine at_op (Op.store 41 (.tmp 2) (.tmp 29)) ?_); refine wpList_put_row rfl 41 (.tmp 2) (.tmp 29) rfl (w1.heap.size) W rfl rfl 41 (mxC V0 0) RR.out 65 infoMx SW.out (mxC_size _ _) OW.out w.heap.size w BR.out LR.out ?_; intro w11 hr hs hb; have R11_m := Lib.hid (hs.row RM.out NMR.out); have R11_r := Lib.hid hr; have B11 := Lib.hid hb; clear hr hs hb))
      refine bodyPost_ret (v := .agg W) ?_ rfl ⟨by rw [HW.out], B11.out⟩
      exact results_cell_row Try.results48 _ _ (w1.heap.size) 41 W (0, 0) _ rfl R11_r.out Try.underlying41 rfl IW.out
end Go.Proofs.Ytbppbkoppbnodaa
