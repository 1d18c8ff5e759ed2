/- The program's matrixFrom. -/
import Derived.Test.YtccjmigdebchiaaIMx
import Derived.Test.YtccjmigdebchiaaMaG
namespace Go.Proofs.Ytccjmigdebchiaa
set_option maxRecDepth 100000
open Go.RowKit

def mfF (m : List (List Int)) : Nat → Nat × Nat := fun c => (f32of (vx (atM m (c / 8) (c % 8))), f32of (vy (atM m (c / 8) (c % 8))))
def mfN (m : List (List Int)) : Nat := if maOk m then m.length else 0
def mfV (m : List (List Int)) : Nat → Nat × Nat := sqV (mfN m) (mfF m) V0
theorem mfN_le (m : List (List Int)) : mfN m ≤ 8 := by
  unfold mfN; split
  · rename_i h; exact maOk_le h
  · omega
theorem mf_MxR (m : List (List Int)) : MxR (mfV m) (mfN m) (atM m) := by
  refine sq_MxR (mfN_le m) (fun i j hi hj => ?_)
  unfold mfN at hi hj
  split at hi
  · rename_i h
    rw [if_pos h] at hj
    have h8 := maOk_le h
    have hp := maOk_ph h i j hi hj
    unfold mfF
    rw [show (i * 8 + j) / 8 = i by omega, show (i * 8 + j) % 8 = j by omega]
    exact isV_of _ hp.1 hp.2
  · omega
set_option maxRecDepth 100000 in
set_option maxHeartbeats 4000000 in
theorem matrixFrom_any (v : Value) (m : List (List Int)) (w : World) (hv : IR w v m) (hl : sz2 m ≤ 1048576) : Calls Try.prog 26 #[v] w (Ret w (.agg (mxC (mfV m) (mfN m)))) := by
  obtain ⟨pa, cap, rfl⟩ := hv.slice
  have HV := Lib.hid hv
  have HI := Lib.hid (fun w' (h : Below w.heap.size w w') => iisMatrix _ m w' (hv.below h) hl)
  have ZZ := Lib.hid zeroMx
  have B00 := Lib.hid builtMx0
  unfold mfV
  cases hm : maOk m with
  | false =>
    have e0 : mfN m = 0 := by unfold mfN; rw [hm]; rfl
    rw [e0, show sqV 0 (mfF m) V0 = V0 by rw [← pgR_end, pgR_start]]
    rw [hm] at HI
    have IZ := Lib.hid (infoMxC V0 0)
    clear hv hm hl HV e0
    have B0 := Lib.hid (Below.refl w.heap.size w)
    go_enter Try.func26, Try.ntmps26
    go_wp2_with ((with_reducible refine at_op (d := some 2) (Op.alloc 53) ?_); refine wpList_alloc_row rfl 53 rfl (mxC V0 0) (fun w => ZZ.out w) ?_; intro w1 hr hb hz; have R1_r := Lib.hid hr; have B1 := Lib.hid (joins B0.out hb); have L1_r := Lib.hid (show w.heap.size ≤ w.heap.size from B0.out.size); clear hr hb hz)
    refine (HI.out _ B1.out).mono ?_
    rintro e w2 ⟨rfl, hb⟩
    have R2_r := Lib.hid (rowB R1_r.out hb)
    have B2 := Lib.hid (joins B1.out hb)
    clear hb
    go_wp2_with (first
      | ((with_reducible refine at_op (Op.build 53 #[]) ?_); refine wpList_build_row rfl 53 [] rfl (mxC V0 0) B00.out ?_)
      | ((with_reducible refine at_op (Op.store 53 (.tmp 2) (.tmp 11)) ?_); refine wpList_put_row rfl 53 (.tmp 2) (.tmp 11) rfl (w.heap.size) (mxC V0 0) rfl rfl 53 (mxC V0 0) R2_r.out 65 infoMx (mxC_size _ _) (mxC_size _ _) (mxC_one _ _) w.heap.size w B2.out L1_r.out ?_; intro w3 hr hs hb; have R3_r := Lib.hid hr; have B3 := Lib.hid hb; clear hr hs hb))
    refine bodyPost_ret (v := .agg (mxC V0 0)) ?_ rfl ⟨rfl, B3.out⟩
    exact results_cell_row Try.results26 _ _ (w.heap.size) 53 (mxC V0 0) (0, 0) _ rfl R3_r.out Try.underlying53 rfl IZ.out
  | true =>
    have hN : mfN m = m.length := by unfold mfN; rw [hm]; rfl
    rw [hN]
    rw [hm] at HI
    have hn := maOk_le hm
    have HLEN := Lib.hid (fun i hi => maOk_sq hm i hi)
    have HPH := Lib.hid (fun i j hi hj => maOk_ph hm i j hi hj)
    obtain ⟨n, hn'⟩ : ∃ n, n = m.length := ⟨_, rfl⟩
    obtain ⟨F, hF⟩ : ∃ F : Nat → Nat × Nat, F = mfF m := ⟨_, rfl⟩
    have HF := Lib.hid (fun a b (hb : b < 8) => show F (a * 8 + b) = (f32of (vx (atM m a b)), f32of (vy (atM m a b))) by
      rw [hF]; unfold mfF; rw [show (a * 8 + b) / 8 = a by omega, show (a * 8 + b) % 8 = b by omega])
    rw [← hF]
    rw [← hn'] at HI HV HLEN HPH hn ⊢
    have HNL := Lib.hid hn'
    have HBU := Lib.hid (builtMx n)
    clear hv hm hl hN hn' hF
    have B0 := Lib.hid (Below.refl w.heap.size w)
    go_enter Try.func26, Try.ntmps26
    go_wp2_with ((with_reducible refine at_op (d := some 2) (Op.alloc 53) ?_); refine wpList_alloc_row rfl 53 rfl (mxC V0 0) (fun w => ZZ.out w) ?_; intro w1 hr hb hz; have R1_r := Lib.hid hr; have B1 := Lib.hid (joins B0.out hb); have L1_r := Lib.hid (show w.heap.size ≤ w.heap.size from B0.out.size); clear hr hb hz)
    refine (HI.out _ B1.out).mono ?_
    rintro e w2 ⟨rfl, hb⟩
    have R2_r := Lib.hid (rowB R1_r.out hb)
    have B2 := Lib.hid (joins B1.out hb)
    clear hb
    go_wp2_with (first
      | ((with_reducible refine at_op (Op.build 53 #[(1, .tmp 13)]) ?_); refine wpList_build_row rfl 53 [(1, .tmp 13)] rfl (mxC V0 n) HBU.out ?_)
      | ((with_reducible refine at_op (d := some 3) (Op.alloc 53) ?_); refine wpList_alloc_row rfl 53 rfl (mxC V0 0) (fun w => ZZ.out w) ?_; intro w3 hr hb hz; have N3_r_m := Lib.hid (Nat.ne_of_lt (row_lt R2_r.out)); have N3_m_r := Lib.hid (Ne.symm N3_r_m.out); have R3_r := Lib.hid (rowB R2_r.out hb); have R3_m := Lib.hid hr; have B3 := Lib.hid (joins B2.out hb); have L3_m := Lib.hid (show w.heap.size ≤ w2.heap.size from B2.out.size); clear hr hb hz)
      | ((with_reducible refine at_op (Op.store 53 (.tmp 3) (.tmp 14)) ?_); refine wpList_put_row rfl 53 (.tmp 3) (.tmp 14) rfl (w2.heap.size) (mxC V0 n) rfl rfl 53 (mxC V0 0) R3_m.out 65 infoMx (mxC_size _ _) (mxC_size _ _) (mxC_one _ _) w.heap.size w B3.out L3_m.out ?_; intro w4 hr hs hb; have R4_r := Lib.hid (hs.row R3_r.out N3_r_m.out); have R4_m := Lib.hid hr; have B4 := Lib.hid hb; clear hr hs hb))
    have LR := Lib.hid L1_r.out
    have LM := Lib.hid L3_m.out
    have NMR := Lib.hid N3_m_r.out
    have NRM := Lib.hid N3_r_m.out
    have RM0 := Lib.hid R4_m.out
    have RR0 := Lib.hid R4_r.out
    have BB0 := Lib.hid B4.out
    go_loopw [17] (fun q wr => ∃ a : Nat, a ≤ n ∧ q = .int .i64 a ∧ wr.heap[w2.heap.size]? = some (.cells (mxC (pgR n a 0 F V0) n) 53 (0, 0)) ∧ wr.heap[w.heap.size]? = some (.cells (mxC V0 0) 53 (0, 0)) ∧ Below w.heap.size w wr) (fun q _ => n - (intOf q).toNat)
    case atStart => exact ⟨0, Nat.zero_le _, rfl, by rw [pgR_start]; exact RM0.out, RR0.out, BB0.out⟩
    case round =>
      obtain ⟨a, ha, rfl, hm, hr, hbel⟩ := hrel
      have RM := Lib.hid hm
      have RR := Lib.hid hr
      have BR := Lib.hid hbel
      clear hm hr hbel
      generalize hwo : wr = wo at *
      clear hwo
      by_cases hlt : a < n
      · have h0 : (0 : Int) ≤ (a : Int) := by omega
        have h1 : (a : Int) < (n : Int) := by omega
        obtain ⟨-, b0, off, u, rfl, cr0, hu⟩ := HV.out.at a (by rw [← HNL.out]; exact hlt)
        have cr := keepc BR.out cr0
        have hul := HLEN.out a hlt
        have HU := Lib.hid (show IS w u (m.getD a []) from hu)
        obtain ⟨a', cap', rfl⟩ := hu.sl
        rw [hul] at cr HU
        clear hu hul cr0
        go_wp2_with fail
        go_loopw [24] (fun q wr => ∃ b : Nat, b ≤ n ∧ q = .int .i64 b ∧ wr.heap[w2.heap.size]? = some (.cells (mxC (pgR n a b F V0) n) 53 (0, 0)) ∧ wr.heap[w.heap.size]? = some (.cells (mxC V0 0) 53 (0, 0)) ∧ Below w.heap.size w wr) (fun q _ => n - (intOf q).toNat)
        case atStart => exact ⟨0, Nat.zero_le _, rfl, RM.out, RR.out, BR.out⟩
        case round =>
          obtain ⟨b, hb, rfl, hm, hr, hbel⟩ := hrel
          have RM2 := Lib.hid hm
          have RR2 := Lib.hid hr
          have BR2 := Lib.hid hbel
          clear hm hr hbel
          by_cases hlb : b < n
          · have h0b : (0 : Int) ≤ (b : Int) := by omega
            have h1b : (b : Int) < (n : Int) := by omega
            have h8a : (a : Int) < 8 := by omega
            have h8b : (b : Int) < 8 := by omega
            have hk := HPH.out a b hlt hlb
            have hFb := HF.out a b (by omega)
            rcases HU.out.below BR2.out with ⟨h0, _⟩ | ⟨_, b2, off2, cap2, hveq, _, hc2⟩
            · exfalso
              have := HLEN.out a hlt
              rw [h0] at this
              simp at this
              omega
            simp only [Value.slice.injEq] at hveq
            obtain ⟨rfl, hnn, rfl⟩ := hveq
            clear hnn
            have cx := hc2 b (by rw [HLEN.out a hlt]; exact hlb)
            clear hc2
            rw [show (m.getD a []).getD b 0 = atM m a b from rfl] at cx
            obtain ⟨K, hK⟩ : ∃ K, K = atM m a b := ⟨_, rfl⟩
            rw [← hK] at cx hk hFb
            have HVO := Lib.hid (valueOf_any K hk.1 hk.2)
            have hset := fun (w' : World) (h : w'.heap[w2.heap.size]? = some (.cells (mxC (pgR n a b F V0) n) 53 (0, 0))) => set_row h (c := a * 8 + b) (by omega) (F (a * 8 + b))
            rw [pgR_step n a b F V0 hn hlt hlb] at hset
            rw [hFb] at hset
            obtain ⟨x, hx⟩ : ∃ x, x = f32of (vx K) := ⟨_, rfl⟩
            obtain ⟨y, hy⟩ : ∃ x, x = f32of (vy K) := ⟨_, rfl⟩
            rw [← hx, ← hy] at hset HVO
            have HSET := Lib.hid hset
            obtain ⟨hk1, hk2⟩ := hk
            clear hset hFb hx hy hK
            have hst := @store_complex Try.prog
            go_wp2_with fail
            go_region_with (go_at_call 45; refine (HVO.out _).mono ?_; rintro e w' ⟨rfl, hb⟩; have hb' := (belowN (Below.refl wr.heap.size wr) 1).trans hb; have hm2 := rowB RM2.out hb'; have ct := cell_row hm2 (c := a * 8 + b) (by omega); have ft := rowFree (i := a * 8 + b) hm2; have HM2 := Lib.hid hm2; have HB2 := Lib.hid hb'; clear hb hm2 hb')
            go_wp2_with fail
            go_roundw
            case rel =>
              have hr2 := (heap_setCell_other w' ⟨w2.heap.size, a * 8 + b, none⟩ (w.heap.size) (.complex .f32 x y) NRM.out).trans (rowB RR2.out HB2.out)
              have hb3 := (joins BR2.out HB2.out).setCell (p := ⟨w2.heap.size, a * 8 + b, none⟩) LM.out (.complex .f32 x y)
              exact ⟨b + 1, by omega, by go_num, HSET.out _ HM2.out, hr2, hb3⟩
            case measure => simp [intOf]; omega
          · obtain rfl : n = b := by omega
            go_wp2_with fail
            go_roundw
            case rel => exact ⟨a + 1, by omega, by go_num, by rw [← pgR_row]; exact RM2.out, RR2.out, BR2.out⟩
            case measure => simp [intOf]; omega
      · obtain rfl : n = a := by omega
        rw [pgR_end] at RM
        have IW := Lib.hid (infoMxC (sqV n F V0) n)
        obtain ⟨W, hW⟩ : ∃ W, W = mxC (sqV n F V0) n := ⟨_, rfl⟩
        have SW := Lib.hid (mxC_size (sqV n F V0) n)
        have OW := Lib.hid (mxC_one (sqV n F V0) n)
        rw [← hW] at RM IW SW OW
        have HW := Lib.hid hW
        clear hW
        go_wp2_with (first
          | ((with_reducible refine at_op (Op.load 53 (.tmp 3)) ?_); refine wpList_load_part rfl 53 (.tmp 3) rfl (w2.heap.size) 0 rfl W W 53 (0, 0) _ RM.out (Part.self _) Try.underlying53 rfl IW.out ?_)
          | ((with_reducible refine at_op (Op.store 53 (.tmp 2) (.tmp 38)) ?_); refine wpList_put_row rfl 53 (.tmp 2) (.tmp 38) rfl (w.heap.size) W rfl rfl 53 (mxC V0 0) RR.out 65 infoMx SW.out (mxC_size _ _) OW.out w.heap.size w BR.out LR.out ?_; intro w11 hr hs hb; have R11_m := Lib.hid (hs.row RM.out NMR.out); have R11_r := Lib.hid hr; have B11 := Lib.hid hb; clear hr hs hb))
        refine bodyPost_ret (v := .agg W) ?_ rfl ⟨by rw [HW.out], B11.out⟩
        exact results_cell_row Try.results26 _ _ (w.heap.size) 53 W (0, 0) _ rfl R11_r.out Try.underlying53 rfl IW.out
end Go.Proofs.Ytccjmigdebchiaa
