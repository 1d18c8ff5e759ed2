/- The program's rowTimes, columnTimes. -/
import Derived.Test.YtbppbkoppbnodaaIMx
namespace Go.Proofs.Ytbppbkoppbnodaa
set_option maxRecDepth 100000
open Go.RowKit

set_option maxRecDepth 100000 in
set_option maxHeartbeats 4000000 in
theorem rowTimes_any (V : Nat → Nat × Nat) (n : Nat) (M : Nat → Nat → Int) (hV : MxR V n M) (i : Nat) (hi : i < n) (x : Nat × Nat) (k : Int) (hx : isV x k) (w : World) :
    Calls Try.prog 54 #[.agg (mxC V n), .int .i64 i, cxV x] w (Ret w (.agg (mxC (pg1 i n (fun c => mulB (V c) x) V) n))) := by
  have hn := hV.1
  have HMU := Lib.hid (fun a (ha : a < n) => (isV_mul (hV.2.1 i a hi ha) hx).1)
  obtain ⟨F, hF⟩ : ∃ F : Nat → Nat × Nat, F = fun c => mulB (V c) x := ⟨_, rfl⟩
  have HFV := Lib.hid (fun c => show mulB (V c) x = F c by rw [hF])
  rw [← hF]
  have HL := Lib.hid (mxC_side V n)
  have ZZ := Lib.hid zeroMx
  clear hF hV hx
  unfold cxV
  have B0 := Lib.hid (Below.refl w.heap.size w)
  go_enter Try.func54, Try.ntmps54
  go_wp2_with (first
    | ((with_reducible refine at_op (Op.box 41 (.tmp 0)) ?_); refine wpList_box_row rfl 41 (.tmp 0) rfl (mxC V n) rfl ?_; intro w1 hr hb hz; have R1_m := Lib.hid hr; have B1 := Lib.hid (joins B0.out hb); have L1_m := Lib.hid (show w.heap.size ≤ w.heap.size from B0.out.size); have c0 := rowC hr HL.out; clear hr hb hz)
    | ((with_reducible refine at_op (d := some 6) (Op.alloc 41) ?_); refine wpList_alloc_row rfl 41 rfl (mxC V0 0) (fun w => ZZ.out w) ?_; intro w2 hr hb hz; have N2_m_r := Lib.hid (Nat.ne_of_lt (row_lt R1_m.out)); have N2_r_m := Lib.hid (Ne.symm N2_m_r.out); have R2_m := Lib.hid (rowB R1_m.out hb); have R2_r := Lib.hid hr; have B2 := Lib.hid (joins B1.out hb); have L2_r := Lib.hid (show w.heap.size ≤ w1.heap.size from B1.out.size); have c0 := rowC R2_m.out HL.out; clear hr hb hz))
  have LR := Lib.hid L2_r.out
  have NMR := Lib.hid N2_m_r.out
  have NRM := Lib.hid N2_r_m.out
  have RM0 := Lib.hid R2_m.out
  have RR0 := Lib.hid R2_r.out
  have BB0 := Lib.hid B2.out
  have LM := Lib.hid (Nat.le_refl w.heap.size)
  go_loopw [10] (fun q wr => ∃ a : Nat, a ≤ n ∧ q = .int .i64 a ∧ wr.heap[w.heap.size]? = some (.cells (mxC (pg1 i a F V) n) 41 (0, 0)) ∧ wr.heap[w1.heap.size]? = some (.cells (mxC V0 0) 41 (0, 0)) ∧ Below w.heap.size w wr) (fun q _ => n - (intOf q).toNat)
  case atStart => exact ⟨0, Nat.zero_le _, rfl, by rw [pg1_start]; exact RM0.out, RR0.out, BB0.out⟩
  case round =>
    obtain ⟨a, ha, rfl, hm, hr, hbel⟩ := hrel
    have RM := Lib.hid hm
    have RR := Lib.hid hr
    have BR := Lib.hid hbel
    have c0 := rowC hm (mxC_side _ _)
    clear hm hr hbel
    by_cases hlt : a < n
    · have h0 : (0 : Int) ≤ (a : Int) := by omega
      have h1 : (a : Int) < (n : Int) := by omega
      have h8a : (a : Int) < 8 := by omega
      have h0i : (0 : Int) ≤ (i : Int) := by omega
      have h8i : (i : Int) < 8 := by omega
      have hmu := HMU.out a hlt
      have cs := cell_row RM.out (c := i * 8 + a) (by omega)
      rw [pg1_at i a F V] at cs
      have ft := rowFree (i := i * 8 + a) RM.out
      have hset := set_row RM.out (c := i * 8 + a) (by omega) (F (i * 8 + a))
      rw [pg1_step i a F V (by omega)] at hset
      rw [HFV.out] at hmu
      obtain ⟨p, hp⟩ : ∃ x, x = (V (i * 8 + a)).1 := ⟨_, rfl⟩
      obtain ⟨q, hq⟩ : ∃ x, x = (V (i * 8 + a)).2 := ⟨_, rfl⟩
      obtain ⟨r, hr⟩ : ∃ x, x = (F (i * 8 + a)).1 := ⟨_, rfl⟩
      obtain ⟨s, hs⟩ : ∃ x, x = (F (i * 8 + a)).2 := ⟨_, rfl⟩
      obtain ⟨x1, hx1⟩ : ∃ p, p = x.1 := ⟨_, rfl⟩
      obtain ⟨x2, hx2⟩ : ∃ p, p = x.2 := ⟨_, rfl⟩
      rw [← hp, ← hq] at cs hmu
      rw [← hr, ← hs] at hset hmu
      rw [← hx1, ← hx2] at hmu ⊢
      have hmul := fun w t => run_complex_mul32 (P := Try.prog) w t _ _ _ _ _ _ hmu
      have hr2 := (heap_setCell_other wr ⟨w.heap.size, i * 8 + a, none⟩ (w1.heap.size) (.complex .f32 r s) NRM.out).trans RR.out
      have hb2 := BR.out.setCell (p := ⟨w.heap.size, i * 8 + a, none⟩) LM.out (.complex .f32 r s)
      have S2 := Lib.hid hset
      have R2 := Lib.hid hr2
      have B2 := Lib.hid hb2
      clear hset hr2 hb2 hmu hp hq hr hs hx1 hx2
      have hst := @store_complex Try.prog
      go_wp2_with fail
      go_region
      go_wp2_with fail
      go_roundw
      case rel => exact ⟨a + 1, by omega, by go_num, S2.out, R2.out, belowN B2.out 1⟩
      case measure => simp [intOf]; omega
    · obtain rfl : n = a := by omega
      have IW := Lib.hid (infoMxC (pg1 i n F V) n)
      obtain ⟨W, hW⟩ : ∃ W, W = mxC (pg1 i n F V) n := ⟨_, rfl⟩
      have SW := Lib.hid (mxC_size (pg1 i n F V) n)
      have OW := Lib.hid (mxC_one (pg1 i n F V) n)
      rw [← hW] at RM IW SW OW
      have HW := Lib.hid hW
      clear hW
      go_wp2_with (first
        | ((with_reducible refine at_op (Op.load 41 (.tmp 3)) ?_); refine wpList_load_part rfl 41 (.tmp 3) rfl (w.heap.size) 0 rfl W W 41 (0, 0) _ RM.out (Part.self _) Try.underlying41 rfl IW.out ?_)
        | ((with_reducible refine at_op (Op.store 41 (.tmp 6) (.tmp 25)) ?_); refine wpList_put_row rfl 41 (.tmp 6) (.tmp 25) rfl (w1.heap.size) W rfl rfl 41 (mxC V0 0) RR.out 65 infoMx SW.out (mxC_size _ _) OW.out w.heap.size w BR.out LR.out ?_; intro w11 hr hs hb; have R11_m := Lib.hid (hs.row RM.out NMR.out); have R11_r := Lib.hid hr; have B11 := Lib.hid hb; clear hr hs hb))
      refine bodyPost_ret (v := .agg W) ?_ rfl ⟨by rw [HW.out], B11.out⟩
      exact results_cell_row Try.results54 _ _ (w1.heap.size) 41 W (0, 0) _ rfl R11_r.out Try.underlying41 rfl IW.out

set_option maxRecDepth 100000 in
set_option maxHeartbeats 4000000 in
theorem columnTimes_any (V : Nat → Nat × Nat) (n : Nat) (M : Nat → Nat → Int) (hV : MxR V n M) (i : Nat) (hi : i < n) (x : Nat × Nat) (k : Int) (hx : isV x k) (w : World) :
    Calls Try.prog 58 #[.agg (mxC V n), .int .i64 i, cxV x] w (Ret w (.agg (mxC (pg2 i n (fun c => mulB (V c) x) V) n))) := by
  have hn := hV.1
  have HMU := Lib.hid (fun a (ha : a < n) => (isV_mul (hV.2.1 a i ha hi) hx).1)
  obtain ⟨F, hF⟩ : ∃ F : Nat → Nat × Nat, F = fun c => mulB (V c) x := ⟨_, rfl⟩
  have HFV := Lib.hid (fun c => show mulB (V c) x = F c by rw [hF])
  rw [← hF]
  have HL := Lib.hid (mxC_side V n)
  have ZZ := Lib.hid zeroMx
  clear hF hV hx
  unfold cxV
  have B0 := Lib.hid (Below.refl w.heap.size w)
  go_enter Try.func58, Try.ntmps58
  go_wp2_with (first
    | ((with_reducible refine at_op (Op.box 41 (.tmp 0)) ?_); refine wpList_box_row rfl 41 (.tmp 0) rfl (mxC V n) rfl ?_; intro w1 hr hb hz; have R1_m := Lib.hid hr; have B1 := Lib.hid (joins B0.out hb); have L1_m := Lib.hid (show w.heap.size ≤ w.heap.size from B0.out.size); have c0 := rowC hr HL.out; clear hr hb hz)
    | ((with_reducible refine at_op (d := some 6) (Op.alloc 41) ?_); refine wpList_alloc_row rfl 41 rfl (mxC V0 0) (fun w => ZZ.out w) ?_; intro w2 hr hb hz; have N2_m_r := Lib.hid (Nat.ne_of_lt (row_lt R1_m.out)); have N2_r_m := Lib.hid (Ne.symm N2_m_r.out); have R2_m := Lib.hid (rowB R1_m.out hb); have R2_r := Lib.hid hr; have B2 := Lib.hid (joins B1.out hb); have L2_r := Lib.hid (show w.heap.size ≤ w1.heap.size from B1.out.size); have c0 := rowC R2_m.out HL.out; clear hr hb hz))
  have LR := Lib.hid L2_r.out
  have NMR := Lib.hid N2_m_r.out
  have NRM := Lib.hid N2_r_m.out
  have RM0 := Lib.hid R2_m.out
  have RR0 := Lib.hid R2_r.out
  have BB0 := Lib.hid B2.out
  have LM := Lib.hid (Nat.le_refl w.heap.size)
  go_loopw [10] (fun q wr => ∃ a : Nat, a ≤ n ∧ q = .int .i64 a ∧ wr.heap[w.heap.size]? = some (.cells (mxC (pg2 i a F V) n) 41 (0, 0)) ∧ wr.heap[w1.heap.size]? = some (.cells (mxC V0 0) 41 (0, 0)) ∧ Below w.heap.size w wr) (fun q _ => n - (intOf q).toNat)
  case atStart => exact ⟨0, Nat.zero_le _, rfl, by rw [pg2_start]; exact RM0.out, RR0.out, BB0.out⟩
  case round =>
    obtain ⟨a, ha, rfl, hm, hr, hbel⟩ := hrel
    have RM := Lib.hid hm
    have RR := Lib.hid hr
    have BR := Lib.hid hbel
    have c0 := rowC hm (mxC_side _ _)
    clear hm hr hbel
    by_cases hlt : a < n
    · have h0 : (0 : Int) ≤ (a : Int) := by omega
      have h1 : (a : Int) < (n : Int) := by omega
      have h8a : (a : Int) < 8 := by omega
      have h0i : (0 : Int) ≤ (i : Int) := by omega
      have h8i : (i : Int) < 8 := by omega
      have hmu := HMU.out a hlt
      have cs := cell_row RM.out (c := a * 8 + i) (by omega)
      rw [pg2_at i a F V] at cs
      have ft := rowFree (i := a * 8 + i) RM.out
      have hset := set_row RM.out (c := a * 8 + i) (by omega) (F (a * 8 + i))
      rw [pg2_step i a F V (by omega)] at hset
      rw [HFV.out] at hmu
      obtain ⟨p, hp⟩ : ∃ x, x = (V (a * 8 + i)).1 := ⟨_, rfl⟩
      obtain ⟨q, hq⟩ : ∃ x, x = (V (a * 8 + i)).2 := ⟨_, rfl⟩
      obtain ⟨r, hr⟩ : ∃ x, x = (F (a * 8 + i)).1 := ⟨_, rfl⟩
      obtain ⟨s, hs⟩ : ∃ x, x = (F (a * 8 + i)).2 := ⟨_, rfl⟩
      obtain ⟨x1, hx1⟩ : ∃ p, p = x.1 := ⟨_, rfl⟩
      obtain ⟨x2, hx2⟩ : ∃ p, p = x.2 := ⟨_, rfl⟩
      rw [← hp, ← hq] at cs hmu
      rw [← hr, ← hs] at hset hmu
      rw [← hx1, ← hx2] at hmu ⊢
      have hmul := fun w t => run_complex_mul32 (P := Try.prog) w t _ _ _ _ _ _ hmu
      have hr2 := (heap_setCell_other wr ⟨w.heap.size, a * 8 + i, none⟩ (w1.heap.size) (.complex .f32 r s) NRM.out).trans RR.out
      have hb2 := BR.out.setCell (p := ⟨w.heap.size, a * 8 + i, none⟩) LM.out (.complex .f32 r s)
      have S2 := Lib.hid hset
      have R2 := Lib.hid hr2
      have B2 := Lib.hid hb2
      clear hset hr2 hb2 hmu hp hq hr hs hx1 hx2
      have hst := @store_complex Try.prog
      go_wp2_with fail
      go_region
      go_wp2_with fail
      go_roundw
      case rel => exact ⟨a + 1, by omega, by go_num, S2.out, R2.out, belowN B2.out 1⟩
      case measure => simp [intOf]; omega
    · obtain rfl : n = a := by omega
      have IW := Lib.hid (infoMxC (pg2 i n F V) n)
      obtain ⟨W, hW⟩ : ∃ W, W = mxC (pg2 i n F V) n := ⟨_, rfl⟩
      have SW := Lib.hid (mxC_size (pg2 i n F V) n)
      have OW := Lib.hid (mxC_one (pg2 i n F V) n)
      rw [← hW] at RM IW SW OW
      have HW := Lib.hid hW
      clear hW
      go_wp2_with (first
        | ((with_reducible refine at_op (Op.load 41 (.tmp 3)) ?_); refine wpList_load_part rfl 41 (.tmp 3) rfl (w.heap.size) 0 rfl W W 41 (0, 0) _ RM.out (Part.self _) Try.underlying41 rfl IW.out ?_)
        | ((with_reducible refine at_op (Op.store 41 (.tmp 6) (.tmp 25)) ?_); refine wpList_put_row rfl 41 (.tmp 6) (.tmp 25) rfl (w1.heap.size) W rfl rfl 41 (mxC V0 0) RR.out 65 infoMx SW.out (mxC_size _ _) OW.out w.heap.size w BR.out LR.out ?_; intro w11 hr hs hb; have R11_m := Lib.hid (hs.row RM.out NMR.out); have R11_r := Lib.hid hr; have B11 := Lib.hid hb; clear hr hs hb))
      refine bodyPost_ret (v := .agg W) ?_ rfl ⟨by rw [HW.out], B11.out⟩
      exact results_cell_row Try.results58 _ _ (w1.heap.size) 41 W (0, 0) _ rfl R11_r.out Try.underlying41 rfl IW.out
end Go.Proofs.Ytbppbkoppbnodaa
