/- The program's require, codeFrom. -/
import Derived.Test.YtapmehgdnofgnaaDoK
import Derived.Test.YtapmehgdnofgnaaSpM
import Derived.Test.YtapmehgdnofgnaaRowM
import Derived.Test.YtapmehgdnofgnaaSCr
namespace Go.Proofs.Ytapmehgdnofgnaa
set_option maxRecDepth 100000
open Go.RowKit

/-- The call raises k; what was there stays. -/
def Raises (w : World) (k : Nat) (e : Ending) (w' : World) : Prop := e = .panicked [rfs k] ∧ Below w.heap.size w w'
theorem require_yes (w : World) : Calls Try.prog 55 #[.bool true] w (Pure w (.tuple #[])) := by
  go_enter Try.func55, Try.ntmps55
  go_wp2
  first | go_end0 | refine bodyPost_ret (results_none rfl _ _ _) rfl ?_
  exact ⟨rfl, rfl⟩
theorem require_no (w : World) : Calls Try.prog 55 #[.bool false] w (fun e w' => e = .panicked [rfs 1] ∧ w' = w) := by
  go_enter Try.func55, Try.ntmps55
  go_wp2
  exact ⟨rfl, rfl, rfl⟩

set_option maxHeartbeats 2000000 in
theorem codeFrom_yes (v : Value) (l : List Int) (w : World) (hv : IS w v l) (h : cdOk l = true) : Calls Try.prog 68 #[v] w (Ret w (.agg (phC l))) := by
  obtain ⟨hs, h1⟩ := cdOk_seq h
  have h32 := isSeq_len hs
  obtain ⟨pa, ca, rfl⟩ := hv.slice
  have HV := Lib.hid hv
  have HP := Lib.hid (fun w h => phasesOf_any (.slice pa l.length ca) l w h (by omega))
  rw [hs] at HP
  have SC := Lib.hid (phC_size l)
  have OC := Lib.hid (phC_one l)
  have IC := Lib.hid (show (Try.prog.info? 61).map (·.size) = some (phC l).size by rw [phC_size]; exact infoPh)
  have LC := Lib.hid (show (phC l)[32]? = some (.int .i64 l.length) from by
    have := phC_len l
    rwa [show sqz l = l by unfold sqz; rw [hs]; rfl] at this)
  have SZ := Lib.hid (phA_size z32 0 z32_length)
  obtain ⟨Z, hZ⟩ : ∃ Z, Z = phA z32 0 := ⟨_, rfl⟩
  have ZZ := Lib.hid zeroPh
  rw [← hZ] at SZ ZZ
  obtain ⟨C, hC⟩ : ∃ C, C = phC l := ⟨_, rfl⟩
  rw [← hC] at HP SC OC IC LC ⊢
  obtain ⟨N, hN⟩ : ∃ n, n = l.length := ⟨_, rfl⟩
  rw [← hN] at HP HV LC h1 h32 ⊢
  have h1i : (1 : Int) ≤ (N : Int) := by omega
  clear hZ hC hv hs h hN
  have B0 := Lib.hid (Below.refl w.heap.size w)
  go_enter Try.func68, Try.ntmps68
  go_wp2_with ((with_reducible refine at_op (d := some 2) (Op.alloc 61) ?_); refine wpList_alloc_row rfl 61 rfl Z ZZ.out ?_; intro w1 hr hb hz; have R1_r := Lib.hid hr; have B1 := Lib.hid (joins B0.out hb); have L1_r := Lib.hid (show w.heap.size ≤ w.heap.size from B0.out.size); clear hr hb hz)
  refine (HP.out _ (HV.out.below B1.out)).mono ?_
  rintro e w2 ⟨rfl, hb⟩
  have R2_r := Lib.hid (rowB R1_r.out hb)
  have B2 := Lib.hid (joins B1.out hb)
  clear hb
  go_wp2_with (first
    | ((with_reducible refine at_op (d := some 3) (Op.alloc 61) ?_); refine wpList_alloc_row rfl 61 rfl Z ZZ.out ?_; intro w3 hr hb hz; have N3_r_p := Lib.hid (Nat.ne_of_lt (row_lt R2_r.out)); have N3_p_r := Lib.hid (Ne.symm N3_r_p.out); have R3_r := Lib.hid (rowB R2_r.out hb); have R3_p := Lib.hid hr; have B3 := Lib.hid (joins B2.out hb); have L3_p := Lib.hid (show w.heap.size ≤ w2.heap.size from B2.out.size); clear hr hb hz)
    | ((with_reducible refine at_op (Op.store 61 (.tmp 3) (.tmp 8)) ?_); refine wpList_put_row rfl 61 (.tmp 3) (.tmp 8) rfl (w2.heap.size) C rfl rfl 61 Z R3_p.out 33 infoPh SC.out SZ.out OC.out w.heap.size w B3.out L3_p.out ?_; intro w4 hr hs hb; have R4_r := Lib.hid (hs.row R3_r.out N3_r_p.out); have R4_p := Lib.hid hr; have B4 := Lib.hid hb; have c32 := rowC hr LC.out; clear hr hs hb))
  refine (require_yes _).mono ?_
  rintro e w' ⟨rfl, rfl⟩
  go_wp2_with (first
    | ((with_reducible refine at_op (Op.load 61 (.tmp 3)) ?_); refine wpList_load_part rfl 61 (.tmp 3) rfl (w2.heap.size) 0 rfl C C 61 (0, 0) _ R4_p.out (Part.self _) Try.underlying61 rfl IC.out ?_)
    | ((with_reducible refine at_op (Op.store 61 (.tmp 2) (.tmp 17)) ?_); refine wpList_put_row rfl 61 (.tmp 2) (.tmp 17) rfl (w.heap.size) C rfl rfl 61 Z R4_r.out 33 infoPh SC.out SZ.out OC.out w.heap.size w B4.out L1_r.out ?_; intro w5 hr hs hb; have R5_p := Lib.hid (hs.row R4_p.out N3_p_r.out); have R5_r := Lib.hid hr; have B5 := Lib.hid hb; clear hr hs hb))
  refine bodyPost_ret (v := .agg C) ?_ rfl ⟨rfl, B5.out⟩
  exact results_cell_row Try.results68 _ _ (w.heap.size) 61 C (0, 0) _ rfl R5_r.out Try.underlying61 rfl IC.out

set_option maxHeartbeats 2000000 in
theorem codeFrom_no (v : Value) (l : List Int) (w : World) (hv : IS w v l) (hlen : l.length ≤ 1048576) (h : cdOk l = false) : Calls Try.prog 68 #[v] w (Raises w 1) := by
  obtain ⟨pa, ca, rfl⟩ := hv.slice
  have HV := Lib.hid hv
  have HP := Lib.hid (fun w h => phasesOf_any (.slice pa l.length ca) l w h hlen)
  have SC := Lib.hid (phC_size l)
  have OC := Lib.hid (phC_one l)
  have SZ := Lib.hid (phA_size z32 0 z32_length)
  obtain ⟨Z, hZ⟩ : ∃ Z, Z = phA z32 0 := ⟨_, rfl⟩
  have ZZ := Lib.hid zeroPh
  rw [← hZ] at SZ ZZ
  cases hs : isSeq l with
  | true =>
    have h0 : l.length = 0 := by
      unfold cdOk at h
      rw [hs, Bool.true_and, decide_eq_false_iff_not] at h
      omega
    have LC := Lib.hid (show (phC l)[32]? = some (.int .i64 0) from by
      have := phC_len l
      rw [show sqz l = l by unfold sqz; rw [hs]; rfl, h0] at this
      exact this)
    rw [hs] at HP
    obtain ⟨C, hC⟩ : ∃ C, C = phC l := ⟨_, rfl⟩
    rw [← hC] at HP SC OC LC
    obtain ⟨N, hN⟩ : ∃ n, n = l.length := ⟨_, rfl⟩
    rw [← hN] at HP HV ⊢
    clear hZ hC hv hs h hN h0 hlen
    have B0 := Lib.hid (Below.refl w.heap.size w)
    go_enter Try.func68, Try.ntmps68
    go_wp2_with ((with_reducible refine at_op (d := some 2) (Op.alloc 61) ?_); refine wpList_alloc_row rfl 61 rfl Z ZZ.out ?_; intro w1 hr hb hz; have R1_r := Lib.hid hr; have B1 := Lib.hid (joins B0.out hb); have L1_r := Lib.hid (show w.heap.size ≤ w.heap.size from B0.out.size); clear hr hb hz)
    refine (HP.out _ (HV.out.below B1.out)).mono ?_
    rintro e w2 ⟨rfl, hb⟩
    have R2_r := Lib.hid (rowB R1_r.out hb)
    have B2 := Lib.hid (joins B1.out hb)
    clear hb
    go_wp2_with (first
      | ((with_reducible refine at_op (d := some 3) (Op.alloc 61) ?_); refine wpList_alloc_row rfl 61 rfl Z ZZ.out ?_; intro w3 hr hb hz; have N3_r_p := Lib.hid (Nat.ne_of_lt (row_lt R2_r.out)); have N3_p_r := Lib.hid (Ne.symm N3_r_p.out); have R3_r := Lib.hid (rowB R2_r.out hb); have R3_p := Lib.hid hr; have B3 := Lib.hid (joins B2.out hb); have L3_p := Lib.hid (show w.heap.size ≤ w2.heap.size from B2.out.size); clear hr hb hz)
      | ((with_reducible refine at_op (Op.store 61 (.tmp 3) (.tmp 8)) ?_); refine wpList_put_row rfl 61 (.tmp 3) (.tmp 8) rfl (w2.heap.size) C rfl rfl 61 Z R3_p.out 33 infoPh SC.out SZ.out OC.out w.heap.size w B3.out L3_p.out ?_; intro w4 hr hs hb; have R4_r := Lib.hid (hs.row R3_r.out N3_r_p.out); have R4_p := Lib.hid hr; have B4 := Lib.hid hb; have c32 := rowC hr LC.out; clear hr hs hb))
    refine (require_no _).mono ?_
    rintro e w' ⟨rfl, rfl⟩
    exact ⟨rfl, rfl, B4.out⟩
  | false =>
    rw [hs] at HP
    obtain ⟨C, hC⟩ : ∃ C, C = phC l := ⟨_, rfl⟩
    rw [← hC] at HP SC OC
    obtain ⟨N, hN⟩ : ∃ n, n = l.length := ⟨_, rfl⟩
    rw [← hN] at HP HV ⊢
    clear hZ hC hv hs h hN hlen
    have B0 := Lib.hid (Below.refl w.heap.size w)
    go_enter Try.func68, Try.ntmps68
    go_wp2_with ((with_reducible refine at_op (d := some 2) (Op.alloc 61) ?_); refine wpList_alloc_row rfl 61 rfl Z ZZ.out ?_; intro w1 hr hb hz; have R1_r := Lib.hid hr; have B1 := Lib.hid (joins B0.out hb); have L1_r := Lib.hid (show w.heap.size ≤ w.heap.size from B0.out.size); clear hr hb hz)
    refine (HP.out _ (HV.out.below B1.out)).mono ?_
    rintro e w2 ⟨rfl, hb⟩
    have R2_r := Lib.hid (rowB R1_r.out hb)
    have B2 := Lib.hid (joins B1.out hb)
    clear hb
    go_wp2_with (first
      | ((with_reducible refine at_op (d := some 3) (Op.alloc 61) ?_); refine wpList_alloc_row rfl 61 rfl Z ZZ.out ?_; intro w3 hr hb hz; have N3_r_p := Lib.hid (Nat.ne_of_lt (row_lt R2_r.out)); have N3_p_r := Lib.hid (Ne.symm N3_r_p.out); have R3_r := Lib.hid (rowB R2_r.out hb); have R3_p := Lib.hid hr; have B3 := Lib.hid (joins B2.out hb); have L3_p := Lib.hid (show w.heap.size ≤ w2.heap.size from B2.out.size); clear hr hb hz)
      | ((with_reducible refine at_op (Op.store 61 (.tmp 3) (.tmp 8)) ?_); refine wpList_put_row rfl 61 (.tmp 3) (.tmp 8) rfl (w2.heap.size) C rfl rfl 61 Z R3_p.out 33 infoPh SC.out SZ.out OC.out w.heap.size w B3.out L3_p.out ?_; intro w4 hr hs hb; have R4_r := Lib.hid (hs.row R3_r.out N3_r_p.out); have R4_p := Lib.hid hr; have B4 := Lib.hid hb; clear hr hs hb))
    refine (require_no _).mono ?_
    rintro e w' ⟨rfl, rfl⟩
    exact ⟨rfl, rfl, B4.out⟩
end Go.Proofs.Ytapmehgdnofgnaa
