/- The program's gridFrom. -/
import Derived.Test.YtjoepdflbbcliabGr
import Derived.Test.YtjoepdflbbcliabIAr
import Derived.Test.YtjoepdflbbcliabMov
namespace Go.Proofs.Ytjoepdflbbcliab
set_option maxRecDepth 100000
open Go.RowKit

theorem elemRp : Try.prog.elem 50 = 3 := by kernel_rfl
theorem lenRp : Try.prog.arrayLen 50 = 8 := by kernel_rfl
theorem slice_row (g o : Nat) (w : World) : (Instr.sliceAt 50 (.pointer (some ⟨g, o, none⟩)) none none none).run Try.prog w = .ok (.slice (some ⟨g, o, none⟩) 8 8) w := by
  have hu : Try.prog.underlying 50 = some (.array (Try.prog.arrayLen 50) (Try.prog.elem 50)) := by rw [lenRp, elemRp]; exact Try.underlying50
  rw [run_sliceAt_array_all w _ _ hu, lenRp, elemRp]
  simp [go_sem]
set_option maxRecDepth 100000 in
set_option maxHeartbeats 4000000 in
theorem gridFrom_any (v : Value) (l : List (List Int)) (w : World) (hv : IR w v l) (hl : sz2 l ≤ 1048576) : Calls Try.prog 39 #[v] w (Ret w (.agg (gfV l))) := by
  obtain ⟨pa, cap, rfl⟩ := hv.slice
  have HV := Lib.hid hv
  have HI := Lib.hid (fun w' (h : Below w.heap.size w w') => iisArray _ l w' (hv.below h) hl)
  have ZZ := Lib.hid zeroGr
  have B00 := Lib.hid builtGr0
  have B0 := Lib.hid (Below.refl w.heap.size w)
  cases hm : arOk l with
  | false =>
    rw [gfV_no hm]
    rw [hm] at HI
    have IZ := Lib.hid (infoGrA G0 0 0)
    clear hv hm hl HV
    go_enter Try.func39, Try.ntmps39
    go_wp2_with ((with_reducible refine at_op (d := some 2) (Op.alloc 53) ?_); refine wpList_alloc_row rfl 53 rfl (grA G0 0 0) (fun w => ZZ.out w) ?_; intro w1 hr hb hz; have R1_r := Lib.hid hr; have B1 := Lib.hid (joins B0.out hb); clear hr hb hz)
    refine (HI.out _ B1.out).mono ?_
    rintro e w2 ⟨rfl, hb⟩
    have R2_r := Lib.hid (rowB R1_r.out hb)
    have B2 := Lib.hid (joins B1.out hb)
    clear hb
    go_wp2_with (first
      | ((with_reducible refine at_op (Op.build 53 #[]) ?_); refine wpList_build_row rfl 53 [] rfl (grA G0 0 0) B00.out ?_)
      | ((with_reducible refine at_op (Op.store 53 (.tmp 2) (.tmp 9)) ?_); refine wpList_put_row rfl 53 (.tmp 2) (.tmp 9) rfl (w.heap.size) (grA G0 0 0) rfl rfl 53 (grA G0 0 0) R2_r.out 66 infoGr (grA_size _ _ _) (grA_size _ _ _) (grA_one _ _ _) w.heap.size w B2.out (Nat.le_refl _) ?_; intro w3 hr hs hb; have R3_r := Lib.hid hr; have B3 := Lib.hid hb; clear hr hs hb))
    refine bodyPost_ret (v := .agg (grA G0 0 0)) ?_ rfl ⟨rfl, B3.out⟩
    exact results_cell_row Try.results39 _ _ (w.heap.size) 53 (grA G0 0 0) (0, 0) _ rfl R3_r.out Try.underlying53 rfl IZ.out
  | true =>
    rw [gfV_yes hm]
    rw [hm] at HI
    obtain ⟨⟨p1, p2⟩, ⟨p3, p4⟩, hrows⟩ := arOk_parts hm
    have HROW := Lib.hid (fun i hi => (hrows i hi).1)
    have HAT := Lib.hid (fun i j => show atM l i j = (l.getD i []).getD j 0 from rfl)
    obtain ⟨-, b0, off, u0, rfl, hc0, hu0⟩ := HV.out.at 0 (by omega)
    obtain ⟨ua, uc, rfl⟩ := hu0.sl
    rw [Nat.add_zero, show (l.getD 0 []).length = colsOf l from rfl] at hc0
    obtain ⟨n, hn⟩ : ∃ n, n = l.length := ⟨_, rfl⟩
    obtain ⟨m, hmm⟩ : ∃ n, n = colsOf l := ⟨_, rfl⟩
    obtain ⟨M, hM⟩ : ∃ M, M = atM l := ⟨_, rfl⟩
    simp only [← hM] at HAT
    rw [← hM]
    rw [← hn] at HI HROW p1 p2 ⊢
    rw [← hmm] at hc0 p3 p4 ⊢
    simp only [← hmm] at HROW
    have HN := Lib.hid (show ∀ i, i < n → i < l.length from fun i hi => by rw [← hn]; exact hi)
    have HBU := Lib.hid (builtGr n m)
    have HC0 := Lib.hid hc0
    have hp0 : (0 : Int) < (n : Int) := by omega
    have SR := Lib.hid slice_row
    have HI1 := Lib.hid (show (Try.prog.info? 3).map (·.size) = some 1 by kernel_rfl)
    clear hv hm hl hrows hM hn hmm hc0 hu0
    go_enter Try.func39, Try.ntmps39
    go_wp2_with ((with_reducible refine at_op (d := some 2) (Op.alloc 53) ?_); refine wpList_alloc_row rfl 53 rfl (grA G0 0 0) (fun w => ZZ.out w) ?_; intro w1 hr hb hz; have R1_r := Lib.hid hr; have B1 := Lib.hid (joins B0.out hb); clear hr hb hz)
    refine (HI.out _ B1.out).mono ?_
    rintro e w2 ⟨rfl, hb⟩
    have R2_r := Lib.hid (rowB R1_r.out hb)
    have B2 := Lib.hid (joins B1.out hb)
    have c0 := keepc B2.out HC0.out
    clear hb
    go_wp2_with (first
      | ((with_reducible refine at_op (Op.build 53 #[(1, .tmp 11), (2, .tmp 15)]) ?_); refine wpList_build_row rfl 53 [(1, .tmp 11), (2, .tmp 15)] rfl (grA G0 n m) HBU.out ?_)
      | ((with_reducible refine at_op (d := some 3) (Op.alloc 53) ?_); refine wpList_alloc_row rfl 53 rfl (grA G0 0 0) (fun w => ZZ.out w) ?_; intro w3 hr hb hz; have N3_r_m := Lib.hid (Nat.ne_of_lt (row_lt R2_r.out)); have N3_m_r := Lib.hid (Ne.symm N3_r_m.out); have R3_r := Lib.hid (rowB R2_r.out hb); have R3_m := Lib.hid hr; have B3 := Lib.hid (joins B2.out hb); have L3_m := Lib.hid (show w.heap.size ≤ w2.heap.size from B2.out.size); clear hr hb hz)
      | ((with_reducible refine at_op (Op.store 53 (.tmp 3) (.tmp 16)) ?_); refine wpList_put_row rfl 53 (.tmp 3) (.tmp 16) rfl (w2.heap.size) (grA G0 n m) rfl rfl 53 (grA G0 0 0) R3_m.out 66 infoGr (grA_size _ _ _) (grA_size _ _ _) (grA_one _ _ _) w.heap.size w B3.out L3_m.out ?_; intro w4 hr hs hb; have R4_r := Lib.hid (hs.row R3_r.out N3_r_m.out); have R4_m := Lib.hid hr; have B4 := Lib.hid hb; clear hr hs hb))
    have LM := Lib.hid L3_m.out
    have NMR := Lib.hid N3_m_r.out
    have NRM := Lib.hid N3_r_m.out
    have RM0 := Lib.hid R4_m.out
    have RR0 := Lib.hid R4_r.out
    have BB0 := Lib.hid B4.out
    clear c0
    go_loopw [19] (fun q wr => ∃ a : Nat, a ≤ n ∧ q = .int .i64 a ∧ wr.heap[w2.heap.size]? = some (.cells (grA (GP n m a 0 M) n m) 53 (0, 0)) ∧ wr.heap[w.heap.size]? = some (.cells (grA G0 0 0) 53 (0, 0)) ∧ Below w.heap.size w wr) (fun q _ => n - (intOf q).toNat)
    case atStart => exact ⟨0, Nat.zero_le _, rfl, by rw [GP_start]; exact RM0.out, RR0.out, BB0.out⟩
    case round =>
      obtain ⟨a, ha, rfl, hm, hr, hbel⟩ := hrel
      have RM := Lib.hid hm
      have RR := Lib.hid hr
      have BR := Lib.hid hbel
      clear hm hr hbel
      by_cases hlt : a < n
      · have h0 : (0 : Int) ≤ (a : Int) := by omega
        have h1 : (a : Int) < (n : Int) := by omega
        have h8a : (a : Int) < 8 := by omega
        obtain ⟨-, b1, off1, u, hab, cr0, hu⟩ := HV.out.at a (HN.out a hlt)
        simp only [Option.some.injEq, Addr.mk.injEq] at hab
        obtain ⟨rfl, rfl, -⟩ := hab
        have hul := HROW.out a hlt
        obtain ⟨ra, rc, hreq, hcells⟩ := hu.cells
        subst hreq
        have hsp := GP_splice n m a M n m p2 p4 hlt (l.getD a []) hul (fun j _ => HAT.out a j)
        rw [hul] at cr0 hcells
        obtain ⟨R, hR⟩ : ∃ R, R = l.getD a [] := ⟨_, rfl⟩
        rw [← hR] at hsp hcells hul
        have HSP := Lib.hid hsp
        have HCL := Lib.hid hcells
        have HUL := Lib.hid hul
        have cr := keepc BR.out cr0
        have sr := SR.out w2.heap.size (a * 8)
        clear hsp hcells hul hu cr0 hR
        go_wp2_with (refine wpList_copy_keep rfl (.tmp 27) (.tmp 28) 35 35 rfl 3 Try.underlying35 HI1.out _ _ _ _ _ _ rfl rfl w2.heap.size (a * 8) (grA (GP n m a 0 M) n m) 53 RM.out (R.map (Value.int .i64)) (by rw [List.length_map, HUL.out]; exact (Nat.min_eq_left (by omega)).symm) (fun h => ⟨rfl, by obtain ⟨ad, h1, h2⟩ := HCL.out (by rw [List.length_map, HUL.out] at h; exact h); exact ⟨ad, h1, fun j u hj => keepc BR.out (h2 j u hj)⟩⟩) (by rw [List.length_map, HUL.out, grA_size]; omega) (by intro u hu; simp only [List.mem_map] at hu; obtain ⟨x, _, rfl⟩ := hu; rfl) w.heap.size w BR.out LM.out ?_; intro w5 hg5 ho5 hz5 hb5; have HG5 := Lib.hid hg5; have HO5 := Lib.hid ho5; have HB5 := Lib.hid hb5; clear hg5 ho5 hz5 hb5)
        go_roundw
        case rel => exact ⟨a + 1, by omega, by go_num, by rw [← HSP.out]; exact HG5.out, (HO5.out _ NRM.out).trans RR.out, HB5.out⟩
        case measure => simp [intOf]; omega
      · obtain rfl : a = n := by omega
        rw [GP_end] at RM
        have IW := Lib.hid (infoGrA (GV a m M) a m)
        obtain ⟨W, hW⟩ : ∃ W, W = grA (GV a m M) a m := ⟨_, rfl⟩
        have SW := Lib.hid (grA_size (GV a m M) a m)
        have OW := Lib.hid (grA_one (GV a m M) a m)
        rw [← hW] at RM IW SW OW
        have HW := Lib.hid hW
        clear hW
        go_wp2_with (first
          | ((with_reducible refine at_op (Op.load 53 (.tmp 3)) ?_); refine wpList_load_part rfl 53 (.tmp 3) rfl (w2.heap.size) 0 rfl W W 53 (0, 0) _ RM.out (Part.self _) Try.underlying53 rfl IW.out ?_)
          | ((with_reducible refine at_op (Op.store 53 (.tmp 2) (.tmp 31)) ?_); refine wpList_put_row rfl 53 (.tmp 2) (.tmp 31) rfl (w.heap.size) W rfl rfl 53 (grA G0 0 0) RR.out 66 infoGr SW.out (grA_size _ _ _) OW.out w.heap.size w BR.out (Nat.le_refl _) ?_; intro w11 hr hs hb; have R11_r := Lib.hid hr; have B11 := Lib.hid hb; clear hr hs hb))
        refine bodyPost_ret (v := .agg W) ?_ rfl ⟨by rw [HW.out], B11.out⟩
        exact results_cell_row Try.results39 _ _ (w.heap.size) 53 W (0, 0) _ rfl R11_r.out Try.underlying53 rfl IW.out
end Go.Proofs.Ytjoepdflbbcliab
