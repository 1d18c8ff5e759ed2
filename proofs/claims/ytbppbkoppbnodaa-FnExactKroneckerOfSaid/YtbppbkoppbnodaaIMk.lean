/- The program's kronecker, KroneckerOf. -/
import Derived.Test.YtbppbkoppbnodaaIMt
import Derived.Test.YtbppbkoppbnodaaMaK
namespace Go.Proofs.Ytbppbkoppbnodaa
set_option maxRecDepth 100000
open Go.RowKit

def kcF (V U : Nat → Nat × Nat) (p : Nat) : Nat → Nat × Nat := fun c => mulB (V (c / 8 / p * 8 + c % 8 / p)) (U (c / 8 % p * 8 + c % 8 % p))
theorem kc_MxR {V U : Nat → Nat × Nat} {n p : Nat} {M N : Nat → Nat → Int} (hV : MxR V n M) (hU : MxR U p N) (h8 : n * p ≤ 8) : MxR (sqV (n * p) (kcF V U p) V0) (n * p) (fun i j => (M (i / p) (j / p) + N (i % p) (j % p)) % 4) := by
  refine sq_MxR h8 (fun i j hi hj => ?_)
  have hp : 0 < p := Nat.pos_of_ne_zero (fun e => by subst e; omega)
  unfold kcF
  rw [show (i * 8 + j) / 8 = i by omega, show (i * 8 + j) % 8 = j by omega]
  exact (isV_mul (hV.2.1 _ _ (Nat.div_lt_of_lt_mul (by rw [Nat.mul_comm]; exact hi)) (Nat.div_lt_of_lt_mul (by rw [Nat.mul_comm]; exact hj))) (hU.2.1 _ _ (Nat.mod_lt _ hp) (Nat.mod_lt _ hp))).2
set_option maxRecDepth 100000 in
set_option maxHeartbeats 8000000 in
theorem kronecker_any (V U : Nat → Nat × Nat) (n p : Nat) (M N : Nat → Nat → Int) (hV : MxR V n M) (hU : MxR U p N) (w : World) :
    Calls Try.prog 44 #[.agg (mxC V n), .agg (mxC U p)] w (Ret w (.agg (if n * p ≤ 8 then mxC (sqV (n * p) (kcF V U p) V0) ((n * p : Nat) : Int) else mxC V0 0))) := by
  have hn := hV.1
  have hp := hU.1
  have HMU := Lib.hid (fun a b (ha : a < n * p) (hb : b < n * p) => by
    have hp : 0 < p := Nat.pos_of_ne_zero (fun e => by subst e; omega)
    exact (isV_mul (hV.2.1 (a / p) (b / p) (Nat.div_lt_of_lt_mul (by rw [Nat.mul_comm]; exact ha)) (Nat.div_lt_of_lt_mul (by rw [Nat.mul_comm]; exact hb))) (hU.2.1 (a % p) (b % p) (Nat.mod_lt _ hp) (Nat.mod_lt _ hp))).1)
  have ZZ := Lib.hid zeroMx
  have HLV := Lib.hid (mxC_side V n)
  have HLU := Lib.hid (mxC_side U p)
  have B00 := Lib.hid builtMx0
  clear hV hU
  have hnp : (n : Int) * (p : Int) = ((n * p : Nat) : Int) := by push_cast; rfl
  have hq64 : n * p ≤ 64 := Nat.le_trans (Nat.mul_le_mul hn hp) (by omega)
  by_cases h8 : n * p ≤ 8
  rotate_left 1
  · rw [if_neg h8]
    have h8' : (8 : Int) < (n : Int) * (p : Int) := by rw [hnp]; omega
    have hlt : (n : Int) * (p : Int) ≤ 64 := by rw [hnp]; omega
    have hge : 0 ≤ (n : Int) * (p : Int) := by rw [hnp]; omega
    have hwr : wrap64 ((n : Int) * (p : Int)) = (n : Int) * (p : Int) := IntWalk.wrap64_in _ (by omega)
    obtain ⟨q, hq⟩ : ∃ q, q = (n : Int) * (p : Int) := ⟨_, rfl⟩
    rw [← hq] at h8' hlt hge hwr
    have IZ := Lib.hid (infoMxC V0 0)
    clear HMU hnp hq64 h8
    have B0 := Lib.hid (Below.refl w.heap.size w)
    go_enter Try.func44, Try.ntmps44
    go_wp2_with (first
      | ((with_reducible refine at_op (Op.box 41 (.tmp 0)) ?_); refine wpList_box_row rfl 41 (.tmp 0) rfl (mxC V n) rfl ?_; intro w1 hr hb hz; have R1_a := Lib.hid hr; have B1 := Lib.hid (joins B0.out hb); have L1_a := Lib.hid (show w.heap.size ≤ w.heap.size from B0.out.size); clear hr hb hz)
      | ((with_reducible refine at_op (Op.box 41 (.tmp 1)) ?_); refine wpList_box_row rfl 41 (.tmp 1) rfl (mxC U p) rfl ?_; intro w2 hr hb hz; have N2_a_b := Lib.hid (Nat.ne_of_lt (row_lt R1_a.out)); have N2_b_a := Lib.hid (Ne.symm N2_a_b.out); have R2_a := Lib.hid (rowB R1_a.out hb); have R2_b := Lib.hid hr; have B2 := Lib.hid (joins B1.out hb); have L2_b := Lib.hid (show w.heap.size ≤ w1.heap.size from B1.out.size); clear hr hb hz)
      | ((with_reducible refine at_op (d := some 4) (Op.alloc 41) ?_); refine wpList_alloc_row rfl 41 rfl (mxC V0 0) (fun w => ZZ.out w) ?_; intro w3 hr hb hz; have N3_a_r := Lib.hid (Nat.ne_of_lt (row_lt R2_a.out)); have N3_r_a := Lib.hid (Ne.symm N3_a_r.out); have N3_b_r := Lib.hid (Nat.ne_of_lt (row_lt R2_b.out)); have N3_r_b := Lib.hid (Ne.symm N3_b_r.out); have R3_a := Lib.hid (rowB R2_a.out hb); have R3_b := Lib.hid (rowB R2_b.out hb); have R3_r := Lib.hid hr; have B3 := Lib.hid (joins B2.out hb); have L3_r := Lib.hid (show w.heap.size ≤ w2.heap.size from B2.out.size); have c0 := rowC R3_a.out HLV.out; have c1 := rowC R3_b.out HLU.out; clear hr hb hz)
      | ((with_reducible refine at_op (Op.build 41 #[]) ?_); refine wpList_build_row rfl 41 [] rfl (mxC V0 0) B00.out ?_)
      | ((with_reducible refine at_op (Op.store 41 (.tmp 4) (.tmp 14)) ?_); refine wpList_put_row rfl 41 (.tmp 4) (.tmp 14) rfl (w2.heap.size) (mxC V0 0) rfl rfl 41 (mxC V0 0) R3_r.out 65 infoMx (mxC_size _ _) (mxC_size _ _) (mxC_one _ _) w.heap.size w B3.out L3_r.out ?_; intro w4 hr hs hb; have R4_a := Lib.hid (hs.row R3_a.out N3_a_r.out); have R4_b := Lib.hid (hs.row R3_b.out N3_b_r.out); have R4_r := Lib.hid hr; have B4 := Lib.hid hb; clear hr hs hb))
    refine bodyPost_ret (v := .agg (mxC V0 0)) ?_ rfl ⟨rfl, B4.out⟩
    exact results_cell_row Try.results44 _ _ (w2.heap.size) 41 (mxC V0 0) (0, 0) _ rfl R4_r.out Try.underlying41 rfl IZ.out
  · rw [if_pos h8]
    have HBU := Lib.hid (builtMx ((n * p : Nat) : Int))
    obtain ⟨q, hq⟩ : ∃ q, q = n * p := ⟨_, rfl⟩
    obtain ⟨F, hF⟩ : ∃ F : Nat → Nat × Nat, F = kcF V U p := ⟨_, rfl⟩
    have HFV := Lib.hid (fun a b (hb : b < 8) => show F (a * 8 + b) = mulB (V (a / p * 8 + b / p)) (U (a % p * 8 + b % p)) by
      rw [hF]; unfold kcF; rw [show (a * 8 + b) / 8 = a by omega, show (a * 8 + b) % 8 = b by omega])
    rw [← hF]
    rw [← hq] at h8 hnp HMU HBU ⊢
    have hwr : wrap64 (q : Int) = (q : Int) := IntWalk.wrap64_in _ (by omega)
    have HQ := Lib.hid hq
    clear hF hq64 hq
    have B0 := Lib.hid (Below.refl w.heap.size w)
    go_enter Try.func44, Try.ntmps44
    go_wp2_with (first
      | ((with_reducible refine at_op (Op.box 41 (.tmp 0)) ?_); refine wpList_box_row rfl 41 (.tmp 0) rfl (mxC V n) rfl ?_; intro w1 hr hb hz; have R1_a := Lib.hid hr; have B1 := Lib.hid (joins B0.out hb); have L1_a := Lib.hid (show w.heap.size ≤ w.heap.size from B0.out.size); clear hr hb hz)
      | ((with_reducible refine at_op (Op.box 41 (.tmp 1)) ?_); refine wpList_box_row rfl 41 (.tmp 1) rfl (mxC U p) rfl ?_; intro w2 hr hb hz; have N2_a_b := Lib.hid (Nat.ne_of_lt (row_lt R1_a.out)); have N2_b_a := Lib.hid (Ne.symm N2_a_b.out); have R2_a := Lib.hid (rowB R1_a.out hb); have R2_b := Lib.hid hr; have B2 := Lib.hid (joins B1.out hb); have L2_b := Lib.hid (show w.heap.size ≤ w1.heap.size from B1.out.size); clear hr hb hz)
      | ((with_reducible refine at_op (d := some 4) (Op.alloc 41) ?_); refine wpList_alloc_row rfl 41 rfl (mxC V0 0) (fun w => ZZ.out w) ?_; intro w3 hr hb hz; have N3_a_r := Lib.hid (Nat.ne_of_lt (row_lt R2_a.out)); have N3_r_a := Lib.hid (Ne.symm N3_a_r.out); have N3_b_r := Lib.hid (Nat.ne_of_lt (row_lt R2_b.out)); have N3_r_b := Lib.hid (Ne.symm N3_b_r.out); have R3_a := Lib.hid (rowB R2_a.out hb); have R3_b := Lib.hid (rowB R2_b.out hb); have R3_r := Lib.hid hr; have B3 := Lib.hid (joins B2.out hb); have L3_r := Lib.hid (show w.heap.size ≤ w2.heap.size from B2.out.size); have c0 := rowC R3_a.out HLV.out; have c1 := rowC R3_b.out HLU.out; clear hr hb hz)
      | ((with_reducible refine at_op (Op.build 41 #[(1, .tmp 19)]) ?_); refine wpList_build_row rfl 41 [(1, .tmp 19)] rfl (mxC V0 q) HBU.out ?_)
      | ((with_reducible refine at_op (d := some 5) (Op.alloc 41) ?_); refine wpList_alloc_row rfl 41 rfl (mxC V0 0) (fun w => ZZ.out w) ?_; intro w4 hr hb hz; have N4_a_o := Lib.hid (Nat.ne_of_lt (row_lt R3_a.out)); have N4_o_a := Lib.hid (Ne.symm N4_a_o.out); have N4_b_o := Lib.hid (Nat.ne_of_lt (row_lt R3_b.out)); have N4_o_b := Lib.hid (Ne.symm N4_b_o.out); have N4_r_o := Lib.hid (Nat.ne_of_lt (row_lt R3_r.out)); have N4_o_r := Lib.hid (Ne.symm N4_r_o.out); have R4_a := Lib.hid (rowB R3_a.out hb); have R4_b := Lib.hid (rowB R3_b.out hb); have R4_r := Lib.hid (rowB R3_r.out hb); have R4_o := Lib.hid hr; have B4 := Lib.hid (joins B3.out hb); have L4_o := Lib.hid (show w.heap.size ≤ w3.heap.size from B3.out.size); clear hr hb hz)
      | ((with_reducible refine at_op (Op.store 41 (.tmp 5) (.tmp 20)) ?_); refine wpList_put_row rfl 41 (.tmp 5) (.tmp 20) rfl (w3.heap.size) (mxC V0 q) rfl rfl 41 (mxC V0 0) R4_o.out 65 infoMx (mxC_size _ _) (mxC_size _ _) (mxC_one _ _) w.heap.size w B4.out L4_o.out ?_; intro w5 hr hs hb; have R5_a := Lib.hid (hs.row R4_a.out N4_a_o.out); have R5_b := Lib.hid (hs.row R4_b.out N4_b_o.out); have R5_r := Lib.hid (hs.row R4_r.out N4_r_o.out); have R5_o := Lib.hid hr; have B5 := Lib.hid hb; have c2 := rowC hr (mxC_side V0 (q : Int)); clear hr hs hb))
    have LR := Lib.hid L3_r.out
    have LO := Lib.hid L4_o.out
    have NAO := Lib.hid N4_a_o.out
    have NBO := Lib.hid N4_b_o.out
    have NRO := Lib.hid N4_r_o.out
    have NOR := Lib.hid N4_o_r.out
    have RA0 := Lib.hid R5_a.out
    have RB0 := Lib.hid R5_b.out
    have RR0 := Lib.hid R5_r.out
    have RO0 := Lib.hid R5_o.out
    have BB0 := Lib.hid B5.out
    go_loopw [23] (fun i wr => ∃ a : Nat, a ≤ q ∧ i = .int .i64 a ∧ wr.heap[w.heap.size]? = some (.cells (mxC V n) 41 (0, 0)) ∧ wr.heap[w1.heap.size]? = some (.cells (mxC U p) 41 (0, 0)) ∧ wr.heap[w2.heap.size]? = some (.cells (mxC V0 0) 41 (0, 0)) ∧ wr.heap[w3.heap.size]? = some (.cells (mxC (pgR q a 0 F V0) q) 41 (0, 0)) ∧ Below w.heap.size w wr) (fun i _ => q - (intOf i).toNat)
    case atStart => exact ⟨0, Nat.zero_le _, rfl, RA0.out, RB0.out, RR0.out, by rw [pgR_start]; exact RO0.out, BB0.out⟩
    case round =>
      obtain ⟨a, ha, rfl, hra, hrb, hr, ho, hbel⟩ := hrel
      have RA := Lib.hid hra
      have RB := Lib.hid hrb
      have RR := Lib.hid hr
      have RO := Lib.hid ho
      have BR := Lib.hid hbel
      have c2 := rowC ho (mxC_side _ _)
      clear hra hrb hr ho hbel
      generalize hwo : wr = wo at *
      clear hwo
      by_cases hlt : a < q
      · have h0 : (0 : Int) ≤ (a : Int) := by omega
        have h1 : (a : Int) < (q : Int) := by omega
        go_wp2_with fail
        go_loopw [28] (fun i wr => ∃ b : Nat, b ≤ q ∧ i = .int .i64 b ∧ wr.heap[w.heap.size]? = some (.cells (mxC V n) 41 (0, 0)) ∧ wr.heap[w1.heap.size]? = some (.cells (mxC U p) 41 (0, 0)) ∧ wr.heap[w2.heap.size]? = some (.cells (mxC V0 0) 41 (0, 0)) ∧ wr.heap[w3.heap.size]? = some (.cells (mxC (pgR q a b F V0) q) 41 (0, 0)) ∧ Below w.heap.size w wr) (fun i _ => q - (intOf i).toNat)
        case atStart => exact ⟨0, Nat.zero_le _, rfl, RA.out, RB.out, RR.out, RO.out, BR.out⟩
        case round =>
          obtain ⟨b, hb, rfl, hra, hrb, hr, ho, hbel⟩ := hrel
          have RA2 := Lib.hid hra
          have RB2 := Lib.hid hrb
          have RR2 := Lib.hid hr
          have RO2 := Lib.hid ho
          have BR2 := Lib.hid hbel
          have c2 := rowC ho (mxC_side _ _)
          clear hra hrb hr ho hbel
          by_cases hlb : b < q
          · have hp0 : 0 < p := Nat.pos_of_ne_zero (fun e => by have := HQ.out; subst e; omega)
            have hmu := HMU.out a b hlt hlb
            have hFb := HFV.out a b (by omega)
            have c1 := rowC RB2.out HLU.out
            have d1 : a / p < 8 := Nat.lt_of_le_of_lt (Nat.div_le_self _ _) (by omega)
            have d2 : b / p < 8 := Nat.lt_of_le_of_lt (Nat.div_le_self _ _) (by omega)
            have d3 : a % p < 8 := Nat.lt_of_lt_of_le (Nat.mod_lt _ hp0) hp
            have d4 : b % p < 8 := Nat.lt_of_lt_of_le (Nat.mod_lt _ hp0) hp
            have q1 : (a : Int).tdiv (p : Int) = ((a / p : Nat) : Int) := rfl
            have q2 : (b : Int).tdiv (p : Int) = ((b / p : Nat) : Int) := rfl
            have q3 : (a : Int).tmod (p : Int) = ((a % p : Nat) : Int) := rfl
            have q4 : (b : Int).tmod (p : Int) = ((b % p : Nat) : Int) := rfl
            have e1 : (a : Int) / (p : Int) = ((a / p : Nat) : Int) := by push_cast; rfl
            have e2 : (b : Int) / (p : Int) = ((b / p : Nat) : Int) := by push_cast; rfl
            have e3 : (a : Int) % (p : Int) = ((a % p : Nat) : Int) := by push_cast; rfl
            have e4 : (b : Int) % (p : Int) = ((b % p : Nat) : Int) := by push_cast; rfl
            obtain ⟨i1, hi1⟩ : ∃ i, i = a / p := ⟨_, rfl⟩
            obtain ⟨i2, hi2⟩ : ∃ i, i = b / p := ⟨_, rfl⟩
            obtain ⟨i3, hi3⟩ : ∃ i, i = a % p := ⟨_, rfl⟩
            obtain ⟨i4, hi4⟩ : ∃ i, i = b % p := ⟨_, rfl⟩
            rw [← hi1] at hmu hFb d1 q1 e1
            rw [← hi2] at hmu hFb d2 q2 e2
            rw [← hi3] at hmu hFb d3 q3 e3
            rw [← hi4] at hmu hFb d4 q4 e4
            have ca := cell_row RA2.out (c := i1 * 8 + i2) (by omega)
            have cb := cell_row RB2.out (c := i3 * 8 + i4) (by omega)
            have ct := cell_row RO2.out (c := a * 8 + b) (by omega)
            have ft := rowFree (i := a * 8 + b) RO2.out
            have hset := set_row RO2.out (c := a * 8 + b) (by omega) (F (a * 8 + b))
            rw [pgR_step q a b F V0 h8 hlt hlb] at hset
            rw [← hFb] at hmu
            obtain ⟨x1, hx1⟩ : ∃ x, x = (V (i1 * 8 + i2)).1 := ⟨_, rfl⟩
            obtain ⟨x2, hx2⟩ : ∃ x, x = (V (i1 * 8 + i2)).2 := ⟨_, rfl⟩
            obtain ⟨y1, hy1⟩ : ∃ x, x = (U (i3 * 8 + i4)).1 := ⟨_, rfl⟩
            obtain ⟨y2, hy2⟩ : ∃ x, x = (U (i3 * 8 + i4)).2 := ⟨_, rfl⟩
            obtain ⟨r, hr⟩ : ∃ x, x = (F (a * 8 + b)).1 := ⟨_, rfl⟩
            obtain ⟨s, hs⟩ : ∃ x, x = (F (a * 8 + b)).2 := ⟨_, rfl⟩
            obtain ⟨z1, hz1⟩ : ∃ x, x = (pgR q a b F V0 (a * 8 + b)).1 := ⟨_, rfl⟩
            obtain ⟨z2, hz2⟩ : ∃ x, x = (pgR q a b F V0 (a * 8 + b)).2 := ⟨_, rfl⟩
            rw [← hx1, ← hx2] at ca hmu
            rw [← hy1, ← hy2] at cb hmu
            rw [← hr, ← hs] at hset hmu
            rw [← hz1, ← hz2] at ct
            have hmul := fun w t => run_complex_mul32 (P := Try.prog) w t _ _ _ _ _ _ hmu
            have A2 := Lib.hid ((heap_setCell_other wr ⟨w3.heap.size, a * 8 + b, none⟩ (w.heap.size) (.complex .f32 r s) NAO.out).trans RA2.out)
            have Bb2 := Lib.hid ((heap_setCell_other wr ⟨w3.heap.size, a * 8 + b, none⟩ (w1.heap.size) (.complex .f32 r s) NBO.out).trans RB2.out)
            have R2 := Lib.hid ((heap_setCell_other wr ⟨w3.heap.size, a * 8 + b, none⟩ (w2.heap.size) (.complex .f32 r s) NRO.out).trans RR2.out)
            have B2 := Lib.hid (BR2.out.setCell (p := ⟨w3.heap.size, a * 8 + b, none⟩) LO.out (.complex .f32 r s))
            have S2 := Lib.hid hset
            have hpI : (0 : Int) < (p : Int) := by omega
            have hpI8 : (p : Int) ≤ 8 := by omega
            have g1 : (i1 : Int) < 8 := by omega
            have g2 : (i2 : Int) < 8 := by omega
            have g3 : (i3 : Int) < 8 := by omega
            have g4 : (i4 : Int) < 8 := by omega
            have h0b : (0 : Int) ≤ (b : Int) := by omega
            have h1b : (b : Int) < (q : Int) := by omega
            have h8a : (a : Int) < 8 := by omega
            have h8b : (b : Int) < 8 := by omega
            clear hset hmu hFb hx1 hx2 hy1 hy2 hr hs hz1 hz2 hi1 hi2 hi3 hi4 hp0 d1 d2 d3 d4
            have hst := @store_complex Try.prog
            go_wp2_with fail
            go_region
            go_wp2_with fail
            go_roundw
            case rel => exact ⟨b + 1, by omega, by go_num, A2.out, Bb2.out, R2.out, S2.out, belowN B2.out 1⟩
            case measure => simp [intOf]; omega
          · obtain rfl : q = b := by omega
            go_wp2_with fail
            go_roundw
            case rel => exact ⟨a + 1, by omega, by go_num, RA2.out, RB2.out, RR2.out, by rw [← pgR_row]; exact RO2.out, BR2.out⟩
            case measure => simp [intOf]; omega
      · obtain rfl : q = a := by omega
        rw [pgR_end] at RO
        have IW := Lib.hid (infoMxC (sqV q F V0) q)
        obtain ⟨W, hW⟩ : ∃ W, W = mxC (sqV q F V0) q := ⟨_, rfl⟩
        have SW := Lib.hid (mxC_size (sqV q F V0) q)
        have OW := Lib.hid (mxC_one (sqV q F V0) q)
        rw [← hW] at RO IW SW OW
        have HW := Lib.hid hW
        clear hW
        go_wp2_with (first
          | ((with_reducible refine at_op (Op.load 41 (.tmp 5)) ?_); refine wpList_load_part rfl 41 (.tmp 5) rfl (w3.heap.size) 0 rfl W W 41 (0, 0) _ RO.out (Part.self _) Try.underlying41 rfl IW.out ?_)
          | ((with_reducible refine at_op (Op.store 41 (.tmp 4) (.tmp 63)) ?_); refine wpList_put_row rfl 41 (.tmp 4) (.tmp 63) rfl (w2.heap.size) W rfl rfl 41 (mxC V0 0) RR.out 65 infoMx SW.out (mxC_size _ _) OW.out w.heap.size w BR.out LR.out ?_; intro w21 hr hs hb; have R21_o := Lib.hid (hs.row RO.out NOR.out); have R21_r := Lib.hid hr; have B21 := Lib.hid hb; clear hr hs hb))
        refine bodyPost_ret (v := .agg W) ?_ rfl ⟨by rw [HW.out], B21.out⟩
        exact results_cell_row Try.results44 _ _ (w2.heap.size) 41 W (0, 0) _ rfl R21_r.out Try.underlying41 rfl IW.out
end Go.Proofs.Ytbppbkoppbnodaa
