/- The program's ways to make a pair: bothMade, bothSigns. -/
import Derived.Test.YtcpeikkkegpdhabIGo
namespace Go.Proofs.Ytcpeikkkegpdhab
set_option maxRecDepth 100000
open Go.RowKit

theorem iff_seq {c : Bool} {l : List Int} (h : c = true → isSeq l = true) : isSeq (iff c l) = true := by
  cases c with
  | true => exact h rfl
  | false => rfl

set_option maxHeartbeats 4000000 in
theorem bothMade_joined (a b c d : List Int) (ha : isSeq a = true) (hb : isSeq b = true) (hc : isSeq c = true) (hd : isSeq d = true) (hab : a.length = b.length) (hcd : c.length = d.length) (w : World) :
    Calls Try.prog 50 #[.agg (phC a), .agg (phC b), .agg (phC c), .agg (phC d), .func (.func 49) #[] #[]] w
      (Ret w (.tuple #[.agg (prC (iff (fits a b) (a ++ b)) (iff (fits c d) (c ++ d))), .bool (fits a b && fits c d)])) := by
  have HU := joinedC a b
  have HV := joinedC c d
  have HU1 := fun w => HU w ha hb hab
  have HV1 := fun w => HV w hc hd hcd
  (try simp only [] at HU1 HV1)
  obtain ⟨e1, he1⟩ : ∃ e, e = iff (fits a b) (a ++ b) := ⟨_, rfl⟩
  obtain ⟨e2, he2⟩ : ∃ e, e = iff (fits c d) (c ++ d) := ⟨_, rfl⟩
  rw [← he1] at HU1 ⊢
  rw [← he2] at HV1 ⊢
  have IA := Lib.hid (infoPhC a)
  have SA := Lib.hid (phC_size a)
  have OA := Lib.hid (phC_one a)
  have IB := Lib.hid (infoPhC b)
  have SB := Lib.hid (phC_size b)
  have OB := Lib.hid (phC_one b)
  have ID := Lib.hid (infoPhC c)
  have SD := Lib.hid (phC_size c)
  have OD := Lib.hid (phC_one c)
  have IE := Lib.hid (infoPhC d)
  have SE := Lib.hid (phC_size d)
  have OE := Lib.hid (phC_one d)
  have IR := Lib.hid (infoPhC e1)
  have SR := Lib.hid (phC_size e1)
  have OR := Lib.hid (phC_one e1)
  have IS := Lib.hid (infoPhC e2)
  have SS := Lib.hid (phC_size e2)
  have OS := Lib.hid (phC_one e2)
  have SC := Lib.hid (prC_size e1 e2)
  have OC := Lib.hid (prC_one e1 e2)
  have IC := Lib.hid (infoPrC e1 e2)
  have HBU := Lib.hid (built_pair (phC e1) (phC e2) SR.out SS.out)
  rw [show phC e1 ++ phC e2 = prC e1 e2 from rfl] at HBU
  have SZ := Lib.hid (prC_size [] [])
  have ZZ := Lib.hid zeroPr
  obtain ⟨Z, hZ⟩ : ∃ Z, Z = prC [] [] := ⟨_, rfl⟩
  rw [← hZ] at SZ ZZ
  obtain ⟨C, hC⟩ : ∃ Z, Z = prC e1 e2 := ⟨_, rfl⟩
  rw [← hC] at SC OC IC HBU ⊢
  obtain ⟨CA, hCA⟩ : ∃ Z, Z = phC a := ⟨_, rfl⟩
  rw [← hCA] at IA SA OA HU1 ⊢
  obtain ⟨CB, hCB⟩ : ∃ Z, Z = phC b := ⟨_, rfl⟩
  rw [← hCB] at IB SB OB HU1 ⊢
  obtain ⟨CD, hCD⟩ : ∃ Z, Z = phC c := ⟨_, rfl⟩
  rw [← hCD] at ID SD OD HV1 ⊢
  obtain ⟨CE, hCE⟩ : ∃ Z, Z = phC d := ⟨_, rfl⟩
  rw [← hCE] at IE SE OE HV1 ⊢
  obtain ⟨CR, hCR⟩ : ∃ Z, Z = phC e1 := ⟨_, rfl⟩
  rw [← hCR] at IR SR OR HU1 HBU
  obtain ⟨CS, hCS⟩ : ∃ Z, Z = phC e2 := ⟨_, rfl⟩
  rw [← hCS] at IS SS OS HV1 HBU
  obtain ⟨o1, ho1⟩ : ∃ o, o = fits a b := ⟨_, rfl⟩
  obtain ⟨o2, ho2⟩ : ∃ o, o = fits c d := ⟨_, rfl⟩
  rw [← ho1] at HU1 ⊢
  rw [← ho2] at HV1 ⊢
  have HU' := Lib.hid HU1
  have HV' := Lib.hid HV1
  clear HU HV HU1 HV1 he1 he2 hZ hC hCA hCB hCD hCE hCR hCS ho1 ho2 ha hb hc hd hab hcd
  cases o1 with
  | true =>
    have B0 := Lib.hid (Below.refl w.heap.size w)
    go_enter Try.func50, Try.ntmps50
    go_wp2_with (first
      | ((with_reducible refine at_op (Op.box 43 (.tmp 0)) ?_); refine wpList_box_row rfl 43 (.tmp 0) rfl CA rfl ?_; intro w1 hr hb hz; have R1_a := Lib.hid hr; have B1 := Lib.hid (joins B0.out hb); have L1_a := Lib.hid (show w.heap.size ≤ w.heap.size from B0.out.size); clear hr hb hz)
      | ((with_reducible refine at_op (Op.box 43 (.tmp 1)) ?_); refine wpList_box_row rfl 43 (.tmp 1) rfl CB rfl ?_; intro w2 hr hb hz; have N2_a_b := Lib.hid (Nat.ne_of_lt (row_lt R1_a.out)); have N2_b_a := Lib.hid (Ne.symm N2_a_b.out); have R2_a := Lib.hid (rowB R1_a.out hb); have R2_b := Lib.hid hr; have B2 := Lib.hid (joins B1.out hb); have L2_b := Lib.hid (show w.heap.size ≤ w1.heap.size from B1.out.size); clear hr hb hz)
      | ((with_reducible refine at_op (Op.box 43 (.tmp 2)) ?_); refine wpList_box_row rfl 43 (.tmp 2) rfl CD rfl ?_; intro w3 hr hb hz; have N3_a_c := Lib.hid (Nat.ne_of_lt (row_lt R2_a.out)); have N3_c_a := Lib.hid (Ne.symm N3_a_c.out); have N3_b_c := Lib.hid (Nat.ne_of_lt (row_lt R2_b.out)); have N3_c_b := Lib.hid (Ne.symm N3_b_c.out); have R3_a := Lib.hid (rowB R2_a.out hb); have R3_b := Lib.hid (rowB R2_b.out hb); have R3_c := Lib.hid hr; have B3 := Lib.hid (joins B2.out hb); have L3_c := Lib.hid (show w.heap.size ≤ w2.heap.size from B2.out.size); clear hr hb hz)
      | ((with_reducible refine at_op (Op.box 43 (.tmp 3)) ?_); refine wpList_box_row rfl 43 (.tmp 3) rfl CE rfl ?_; intro w4 hr hb hz; have N4_a_d := Lib.hid (Nat.ne_of_lt (row_lt R3_a.out)); have N4_d_a := Lib.hid (Ne.symm N4_a_d.out); have N4_b_d := Lib.hid (Nat.ne_of_lt (row_lt R3_b.out)); have N4_d_b := Lib.hid (Ne.symm N4_b_d.out); have N4_c_d := Lib.hid (Nat.ne_of_lt (row_lt R3_c.out)); have N4_d_c := Lib.hid (Ne.symm N4_c_d.out); have R4_a := Lib.hid (rowB R3_a.out hb); have R4_b := Lib.hid (rowB R3_b.out hb); have R4_c := Lib.hid (rowB R3_c.out hb); have R4_d := Lib.hid hr; have B4 := Lib.hid (joins B3.out hb); have L4_d := Lib.hid (show w.heap.size ≤ w3.heap.size from B3.out.size); clear hr hb hz)
      | ((with_reducible refine at_op (d := some 10) (Op.alloc 45) ?_); refine wpList_alloc_row rfl 45 rfl Z (fun w => ZZ.out w) ?_; intro w5 hr hb hz; have N5_a_r := Lib.hid (Nat.ne_of_lt (row_lt R4_a.out)); have N5_r_a := Lib.hid (Ne.symm N5_a_r.out); have N5_b_r := Lib.hid (Nat.ne_of_lt (row_lt R4_b.out)); have N5_r_b := Lib.hid (Ne.symm N5_b_r.out); have N5_c_r := Lib.hid (Nat.ne_of_lt (row_lt R4_c.out)); have N5_r_c := Lib.hid (Ne.symm N5_c_r.out); have N5_d_r := Lib.hid (Nat.ne_of_lt (row_lt R4_d.out)); have N5_r_d := Lib.hid (Ne.symm N5_d_r.out); have R5_a := Lib.hid (rowB R4_a.out hb); have R5_b := Lib.hid (rowB R4_b.out hb); have R5_c := Lib.hid (rowB R4_c.out hb); have R5_d := Lib.hid (rowB R4_d.out hb); have R5_r := Lib.hid hr; have B5 := Lib.hid (joins B4.out hb); have L5_r := Lib.hid (show w.heap.size ≤ w4.heap.size from B4.out.size); clear hr hb hz)
      | ((with_reducible refine at_op (Op.load 43 (.tmp 5)) ?_); refine wpList_load_part rfl 43 (.tmp 5) rfl (w.heap.size) 0 rfl CA CA 43 (0, 0) _ R5_a.out (Part.self _) Try.underlying43 rfl IA.out ?_)
      | ((with_reducible refine at_op (Op.load 43 (.tmp 6)) ?_); refine wpList_load_part rfl 43 (.tmp 6) rfl (w1.heap.size) 0 rfl CB CB 43 (0, 0) _ R5_b.out (Part.self _) Try.underlying43 rfl IB.out ?_))
    refine (HU'.out _).mono ?_
    rintro e w6 ⟨rfl, hb⟩
    have R6_a := Lib.hid (rowB R5_a.out hb)
    have R6_b := Lib.hid (rowB R5_b.out hb)
    have R6_c := Lib.hid (rowB R5_c.out hb)
    have R6_d := Lib.hid (rowB R5_d.out hb)
    have R6_r := Lib.hid (rowB R5_r.out hb)
    have B6 := Lib.hid (joins B5.out hb)
    clear hb
    go_wp2_with (first
      | ((with_reducible refine at_op (d := some 12) (Op.alloc 43) ?_); refine wpList_alloc_row rfl 43 rfl (phA z32 0) zeroPh ?_; intro w7 hr hb hz; have N7_c_x := Lib.hid (Nat.ne_of_lt (row_lt R6_c.out)); have N7_x_c := Lib.hid (Ne.symm N7_c_x.out); have N7_d_x := Lib.hid (Nat.ne_of_lt (row_lt R6_d.out)); have N7_x_d := Lib.hid (Ne.symm N7_d_x.out); have N7_r_x := Lib.hid (Nat.ne_of_lt (row_lt R6_r.out)); have N7_x_r := Lib.hid (Ne.symm N7_r_x.out); have R7_c := Lib.hid (rowB R6_c.out hb); have R7_d := Lib.hid (rowB R6_d.out hb); have R7_r := Lib.hid (rowB R6_r.out hb); have R7_x := Lib.hid hr; have B7 := Lib.hid (joins B6.out hb); have L7_x := Lib.hid (show w.heap.size ≤ w6.heap.size from B6.out.size); clear hr hb hz)
      | ((with_reducible refine at_op (Op.store 43 (.tmp 12) (.tmp 21)) ?_); refine wpList_put_row rfl 43 (.tmp 12) (.tmp 21) rfl (w6.heap.size) CR rfl rfl 43 (phA z32 0) R7_x.out 33 infoPh SR.out (phA_size _ _ z32_length) OR.out w.heap.size w B7.out L7_x.out ?_; intro w8 hr hs hb; have R8_c := Lib.hid (hs.row R7_c.out N7_c_x.out); have R8_d := Lib.hid (hs.row R7_d.out N7_d_x.out); have R8_r := Lib.hid (hs.row R7_r.out N7_r_x.out); have R8_x := Lib.hid hr; have B8 := Lib.hid hb; clear hr hs hb)
      | ((with_reducible refine at_op (Op.load 43 (.tmp 7)) ?_); refine wpList_load_part rfl 43 (.tmp 7) rfl (w2.heap.size) 0 rfl CD CD 43 (0, 0) _ R8_c.out (Part.self _) Try.underlying43 rfl ID.out ?_)
      | ((with_reducible refine at_op (Op.load 43 (.tmp 8)) ?_); refine wpList_load_part rfl 43 (.tmp 8) rfl (w3.heap.size) 0 rfl CE CE 43 (0, 0) _ R8_d.out (Part.self _) Try.underlying43 rfl IE.out ?_))
    refine (HV'.out _).mono ?_
    rintro e w9 ⟨rfl, hb⟩
    have R9_c := Lib.hid (rowB R8_c.out hb)
    have R9_d := Lib.hid (rowB R8_d.out hb)
    have R9_r := Lib.hid (rowB R8_r.out hb)
    have R9_x := Lib.hid (rowB R8_x.out hb)
    have B9 := Lib.hid (joins B8.out hb)
    clear hb
    go_wp2_with (first
      | ((with_reducible refine at_op (d := some 14) (Op.alloc 43) ?_); refine wpList_alloc_row rfl 43 rfl (phA z32 0) zeroPh ?_; intro w10 hr hb hz; have N10_r_y := Lib.hid (Nat.ne_of_lt (row_lt R9_r.out)); have N10_y_r := Lib.hid (Ne.symm N10_r_y.out); have N10_x_y := Lib.hid (Nat.ne_of_lt (row_lt R9_x.out)); have N10_y_x := Lib.hid (Ne.symm N10_x_y.out); have R10_r := Lib.hid (rowB R9_r.out hb); have R10_x := Lib.hid (rowB R9_x.out hb); have R10_y := Lib.hid hr; have B10 := Lib.hid (joins B9.out hb); have L10_y := Lib.hid (show w.heap.size ≤ w9.heap.size from B9.out.size); clear hr hb hz)
      | ((with_reducible refine at_op (Op.store 43 (.tmp 14) (.tmp 28)) ?_); refine wpList_put_row rfl 43 (.tmp 14) (.tmp 28) rfl (w9.heap.size) CS rfl rfl 43 (phA z32 0) R10_y.out 33 infoPh SS.out (phA_size _ _ z32_length) OS.out w.heap.size w B10.out L10_y.out ?_; intro w11 hr hs hb; have R11_r := Lib.hid (hs.row R10_r.out N10_r_y.out); have R11_x := Lib.hid (hs.row R10_x.out N10_x_y.out); have R11_y := Lib.hid hr; have B11 := Lib.hid hb; clear hr hs hb)
      | ((with_reducible refine at_op (Op.load 43 (.tmp 12)) ?_); refine wpList_load_part rfl 43 (.tmp 12) rfl (w6.heap.size) 0 rfl CR CR 43 (0, 0) _ R11_x.out (Part.self _) Try.underlying43 rfl IR.out ?_)
      | ((with_reducible refine at_op (Op.load 43 (.tmp 14)) ?_); refine wpList_load_part rfl 43 (.tmp 14) rfl (w9.heap.size) 0 rfl CS CS 43 (0, 0) _ R11_y.out (Part.self _) Try.underlying43 rfl IS.out ?_)
      | ((with_reducible refine at_op (Op.build 45 #[(0, .tmp 30), (1, .tmp 31)]) ?_); refine wpList_build_row rfl 45 [(0, .tmp 30), (1, .tmp 31)] rfl C HBU.out ?_)
      | ((with_reducible refine at_op (Op.store 45 (.tmp 10) (.tmp 32)) ?_); refine wpList_put_row rfl 45 (.tmp 10) (.tmp 32) rfl (w4.heap.size) C rfl rfl 45 Z R11_r.out 66 infoPr SC.out SZ.out OC.out w.heap.size w B11.out L5_r.out ?_; intro w12 hr hs hb; have R12_x := Lib.hid (hs.row R11_x.out N7_x_r.out); have R12_y := Lib.hid (hs.row R11_y.out N10_y_r.out); have R12_r := Lib.hid hr; have B12 := Lib.hid hb; clear hr hs hb))
    refine bodyPost_ret (v := .tuple #[.agg C, .bool (true && o2)]) ?_ rfl ⟨rfl, B12.out⟩
    rw [results_cell_tmp (p := 10) (u := 11) (ty := 45) Try.results50]
    simp [asAddr, run_loadVar_row _ (w4.heap.size) 45 45 _ (0, 0) _ R12_r.out Try.underlying45 rfl IC.out, Result.andThen]
  | false =>
    have B0 := Lib.hid (Below.refl w.heap.size w)
    go_enter Try.func50, Try.ntmps50
    go_wp2_with (first
      | ((with_reducible refine at_op (Op.box 43 (.tmp 0)) ?_); refine wpList_box_row rfl 43 (.tmp 0) rfl CA rfl ?_; intro w1 hr hb hz; have R1_a := Lib.hid hr; have B1 := Lib.hid (joins B0.out hb); have L1_a := Lib.hid (show w.heap.size ≤ w.heap.size from B0.out.size); clear hr hb hz)
      | ((with_reducible refine at_op (Op.box 43 (.tmp 1)) ?_); refine wpList_box_row rfl 43 (.tmp 1) rfl CB rfl ?_; intro w2 hr hb hz; have N2_a_b := Lib.hid (Nat.ne_of_lt (row_lt R1_a.out)); have N2_b_a := Lib.hid (Ne.symm N2_a_b.out); have R2_a := Lib.hid (rowB R1_a.out hb); have R2_b := Lib.hid hr; have B2 := Lib.hid (joins B1.out hb); have L2_b := Lib.hid (show w.heap.size ≤ w1.heap.size from B1.out.size); clear hr hb hz)
      | ((with_reducible refine at_op (Op.box 43 (.tmp 2)) ?_); refine wpList_box_row rfl 43 (.tmp 2) rfl CD rfl ?_; intro w3 hr hb hz; have N3_a_c := Lib.hid (Nat.ne_of_lt (row_lt R2_a.out)); have N3_c_a := Lib.hid (Ne.symm N3_a_c.out); have N3_b_c := Lib.hid (Nat.ne_of_lt (row_lt R2_b.out)); have N3_c_b := Lib.hid (Ne.symm N3_b_c.out); have R3_a := Lib.hid (rowB R2_a.out hb); have R3_b := Lib.hid (rowB R2_b.out hb); have R3_c := Lib.hid hr; have B3 := Lib.hid (joins B2.out hb); have L3_c := Lib.hid (show w.heap.size ≤ w2.heap.size from B2.out.size); clear hr hb hz)
      | ((with_reducible refine at_op (Op.box 43 (.tmp 3)) ?_); refine wpList_box_row rfl 43 (.tmp 3) rfl CE rfl ?_; intro w4 hr hb hz; have N4_a_d := Lib.hid (Nat.ne_of_lt (row_lt R3_a.out)); have N4_d_a := Lib.hid (Ne.symm N4_a_d.out); have N4_b_d := Lib.hid (Nat.ne_of_lt (row_lt R3_b.out)); have N4_d_b := Lib.hid (Ne.symm N4_b_d.out); have N4_c_d := Lib.hid (Nat.ne_of_lt (row_lt R3_c.out)); have N4_d_c := Lib.hid (Ne.symm N4_c_d.out); have R4_a := Lib.hid (rowB R3_a.out hb); have R4_b := Lib.hid (rowB R3_b.out hb); have R4_c := Lib.hid (rowB R3_c.out hb); have R4_d := Lib.hid hr; have B4 := Lib.hid (joins B3.out hb); have L4_d := Lib.hid (show w.heap.size ≤ w3.heap.size from B3.out.size); clear hr hb hz)
      | ((with_reducible refine at_op (d := some 10) (Op.alloc 45) ?_); refine wpList_alloc_row rfl 45 rfl Z (fun w => ZZ.out w) ?_; intro w5 hr hb hz; have N5_a_r := Lib.hid (Nat.ne_of_lt (row_lt R4_a.out)); have N5_r_a := Lib.hid (Ne.symm N5_a_r.out); have N5_b_r := Lib.hid (Nat.ne_of_lt (row_lt R4_b.out)); have N5_r_b := Lib.hid (Ne.symm N5_b_r.out); have N5_c_r := Lib.hid (Nat.ne_of_lt (row_lt R4_c.out)); have N5_r_c := Lib.hid (Ne.symm N5_c_r.out); have N5_d_r := Lib.hid (Nat.ne_of_lt (row_lt R4_d.out)); have N5_r_d := Lib.hid (Ne.symm N5_d_r.out); have R5_a := Lib.hid (rowB R4_a.out hb); have R5_b := Lib.hid (rowB R4_b.out hb); have R5_c := Lib.hid (rowB R4_c.out hb); have R5_d := Lib.hid (rowB R4_d.out hb); have R5_r := Lib.hid hr; have B5 := Lib.hid (joins B4.out hb); have L5_r := Lib.hid (show w.heap.size ≤ w4.heap.size from B4.out.size); clear hr hb hz)
      | ((with_reducible refine at_op (Op.load 43 (.tmp 5)) ?_); refine wpList_load_part rfl 43 (.tmp 5) rfl (w.heap.size) 0 rfl CA CA 43 (0, 0) _ R5_a.out (Part.self _) Try.underlying43 rfl IA.out ?_)
      | ((with_reducible refine at_op (Op.load 43 (.tmp 6)) ?_); refine wpList_load_part rfl 43 (.tmp 6) rfl (w1.heap.size) 0 rfl CB CB 43 (0, 0) _ R5_b.out (Part.self _) Try.underlying43 rfl IB.out ?_))
    refine (HU'.out _).mono ?_
    rintro e w6 ⟨rfl, hb⟩
    have R6_a := Lib.hid (rowB R5_a.out hb)
    have R6_b := Lib.hid (rowB R5_b.out hb)
    have R6_c := Lib.hid (rowB R5_c.out hb)
    have R6_d := Lib.hid (rowB R5_d.out hb)
    have R6_r := Lib.hid (rowB R5_r.out hb)
    have B6 := Lib.hid (joins B5.out hb)
    clear hb
    go_wp2_with (first
      | ((with_reducible refine at_op (d := some 12) (Op.alloc 43) ?_); refine wpList_alloc_row rfl 43 rfl (phA z32 0) zeroPh ?_; intro w7 hr hb hz; have N7_c_x := Lib.hid (Nat.ne_of_lt (row_lt R6_c.out)); have N7_x_c := Lib.hid (Ne.symm N7_c_x.out); have N7_d_x := Lib.hid (Nat.ne_of_lt (row_lt R6_d.out)); have N7_x_d := Lib.hid (Ne.symm N7_d_x.out); have N7_r_x := Lib.hid (Nat.ne_of_lt (row_lt R6_r.out)); have N7_x_r := Lib.hid (Ne.symm N7_r_x.out); have R7_c := Lib.hid (rowB R6_c.out hb); have R7_d := Lib.hid (rowB R6_d.out hb); have R7_r := Lib.hid (rowB R6_r.out hb); have R7_x := Lib.hid hr; have B7 := Lib.hid (joins B6.out hb); have L7_x := Lib.hid (show w.heap.size ≤ w6.heap.size from B6.out.size); clear hr hb hz)
      | ((with_reducible refine at_op (Op.store 43 (.tmp 12) (.tmp 21)) ?_); refine wpList_put_row rfl 43 (.tmp 12) (.tmp 21) rfl (w6.heap.size) CR rfl rfl 43 (phA z32 0) R7_x.out 33 infoPh SR.out (phA_size _ _ z32_length) OR.out w.heap.size w B7.out L7_x.out ?_; intro w8 hr hs hb; have R8_c := Lib.hid (hs.row R7_c.out N7_c_x.out); have R8_d := Lib.hid (hs.row R7_d.out N7_d_x.out); have R8_r := Lib.hid (hs.row R7_r.out N7_r_x.out); have R8_x := Lib.hid hr; have B8 := Lib.hid hb; clear hr hs hb)
      | ((with_reducible refine at_op (Op.load 43 (.tmp 7)) ?_); refine wpList_load_part rfl 43 (.tmp 7) rfl (w2.heap.size) 0 rfl CD CD 43 (0, 0) _ R8_c.out (Part.self _) Try.underlying43 rfl ID.out ?_)
      | ((with_reducible refine at_op (Op.load 43 (.tmp 8)) ?_); refine wpList_load_part rfl 43 (.tmp 8) rfl (w3.heap.size) 0 rfl CE CE 43 (0, 0) _ R8_d.out (Part.self _) Try.underlying43 rfl IE.out ?_))
    refine (HV'.out _).mono ?_
    rintro e w9 ⟨rfl, hb⟩
    have R9_c := Lib.hid (rowB R8_c.out hb)
    have R9_d := Lib.hid (rowB R8_d.out hb)
    have R9_r := Lib.hid (rowB R8_r.out hb)
    have R9_x := Lib.hid (rowB R8_x.out hb)
    have B9 := Lib.hid (joins B8.out hb)
    clear hb
    go_wp2_with (first
      | ((with_reducible refine at_op (d := some 14) (Op.alloc 43) ?_); refine wpList_alloc_row rfl 43 rfl (phA z32 0) zeroPh ?_; intro w10 hr hb hz; have N10_r_y := Lib.hid (Nat.ne_of_lt (row_lt R9_r.out)); have N10_y_r := Lib.hid (Ne.symm N10_r_y.out); have N10_x_y := Lib.hid (Nat.ne_of_lt (row_lt R9_x.out)); have N10_y_x := Lib.hid (Ne.symm N10_x_y.out); have R10_r := Lib.hid (rowB R9_r.out hb); have R10_x := Lib.hid (rowB R9_x.out hb); have R10_y := Lib.hid hr; have B10 := Lib.hid (joins B9.out hb); have L10_y := Lib.hid (show w.heap.size ≤ w9.heap.size from B9.out.size); clear hr hb hz)
      | ((with_reducible refine at_op (Op.store 43 (.tmp 14) (.tmp 28)) ?_); refine wpList_put_row rfl 43 (.tmp 14) (.tmp 28) rfl (w9.heap.size) CS rfl rfl 43 (phA z32 0) R10_y.out 33 infoPh SS.out (phA_size _ _ z32_length) OS.out w.heap.size w B10.out L10_y.out ?_; intro w11 hr hs hb; have R11_r := Lib.hid (hs.row R10_r.out N10_r_y.out); have R11_x := Lib.hid (hs.row R10_x.out N10_x_y.out); have R11_y := Lib.hid hr; have B11 := Lib.hid hb; clear hr hs hb)
      | ((with_reducible refine at_op (Op.load 43 (.tmp 12)) ?_); refine wpList_load_part rfl 43 (.tmp 12) rfl (w6.heap.size) 0 rfl CR CR 43 (0, 0) _ R11_x.out (Part.self _) Try.underlying43 rfl IR.out ?_)
      | ((with_reducible refine at_op (Op.load 43 (.tmp 14)) ?_); refine wpList_load_part rfl 43 (.tmp 14) rfl (w9.heap.size) 0 rfl CS CS 43 (0, 0) _ R11_y.out (Part.self _) Try.underlying43 rfl IS.out ?_)
      | ((with_reducible refine at_op (Op.build 45 #[(0, .tmp 30), (1, .tmp 31)]) ?_); refine wpList_build_row rfl 45 [(0, .tmp 30), (1, .tmp 31)] rfl C HBU.out ?_)
      | ((with_reducible refine at_op (Op.store 45 (.tmp 10) (.tmp 32)) ?_); refine wpList_put_row rfl 45 (.tmp 10) (.tmp 32) rfl (w4.heap.size) C rfl rfl 45 Z R11_r.out 66 infoPr SC.out SZ.out OC.out w.heap.size w B11.out L5_r.out ?_; intro w12 hr hs hb; have R12_x := Lib.hid (hs.row R11_x.out N7_x_r.out); have R12_y := Lib.hid (hs.row R11_y.out N10_y_r.out); have R12_r := Lib.hid hr; have B12 := Lib.hid hb; clear hr hs hb))
    refine bodyPost_ret (v := .tuple #[.agg C, .bool (false && o2)]) ?_ rfl ⟨rfl, B12.out⟩
    rw [results_cell_tmp (p := 10) (u := 11) (ty := 45) Try.results50]
    simp [asAddr, run_loadVar_row _ (w4.heap.size) 45 45 _ (0, 0) _ R12_r.out Try.underlying45 rfl IC.out, Result.andThen]

set_option maxHeartbeats 4000000 in
theorem bothMade_interleaved (a b c d : List Int) (ha : isSeq a = true) (hb : isSeq b = true) (hc : isSeq c = true) (hd : isSeq d = true) (hab : a.length = b.length) (hcd : c.length = d.length) (w : World) :
    Calls Try.prog 50 #[.agg (phC a), .agg (phC b), .agg (phC c), .agg (phC d), .func (.func 52) #[] #[]] w
      (Ret w (.tuple #[.agg (prC (iff (fits a b) (weaveG a b)) (iff (fits c d) (weaveG c d))), .bool (fits a b && fits c d)])) := by
  have HU := interleavedC a b
  have HV := interleavedC c d
  have HU1 := fun w => HU w ha hb hab
  have HV1 := fun w => HV w hc hd hcd
  (try simp only [] at HU1 HV1)
  obtain ⟨e1, he1⟩ : ∃ e, e = iff (fits a b) (weaveG a b) := ⟨_, rfl⟩
  obtain ⟨e2, he2⟩ : ∃ e, e = iff (fits c d) (weaveG c d) := ⟨_, rfl⟩
  rw [← he1] at HU1 ⊢
  rw [← he2] at HV1 ⊢
  have IA := Lib.hid (infoPhC a)
  have SA := Lib.hid (phC_size a)
  have OA := Lib.hid (phC_one a)
  have IB := Lib.hid (infoPhC b)
  have SB := Lib.hid (phC_size b)
  have OB := Lib.hid (phC_one b)
  have ID := Lib.hid (infoPhC c)
  have SD := Lib.hid (phC_size c)
  have OD := Lib.hid (phC_one c)
  have IE := Lib.hid (infoPhC d)
  have SE := Lib.hid (phC_size d)
  have OE := Lib.hid (phC_one d)
  have IR := Lib.hid (infoPhC e1)
  have SR := Lib.hid (phC_size e1)
  have OR := Lib.hid (phC_one e1)
  have IS := Lib.hid (infoPhC e2)
  have SS := Lib.hid (phC_size e2)
  have OS := Lib.hid (phC_one e2)
  have SC := Lib.hid (prC_size e1 e2)
  have OC := Lib.hid (prC_one e1 e2)
  have IC := Lib.hid (infoPrC e1 e2)
  have HBU := Lib.hid (built_pair (phC e1) (phC e2) SR.out SS.out)
  rw [show phC e1 ++ phC e2 = prC e1 e2 from rfl] at HBU
  have SZ := Lib.hid (prC_size [] [])
  have ZZ := Lib.hid zeroPr
  obtain ⟨Z, hZ⟩ : ∃ Z, Z = prC [] [] := ⟨_, rfl⟩
  rw [← hZ] at SZ ZZ
  obtain ⟨C, hC⟩ : ∃ Z, Z = prC e1 e2 := ⟨_, rfl⟩
  rw [← hC] at SC OC IC HBU ⊢
  obtain ⟨CA, hCA⟩ : ∃ Z, Z = phC a := ⟨_, rfl⟩
  rw [← hCA] at IA SA OA HU1 ⊢
  obtain ⟨CB, hCB⟩ : ∃ Z, Z = phC b := ⟨_, rfl⟩
  rw [← hCB] at IB SB OB HU1 ⊢
  obtain ⟨CD, hCD⟩ : ∃ Z, Z = phC c := ⟨_, rfl⟩
  rw [← hCD] at ID SD OD HV1 ⊢
  obtain ⟨CE, hCE⟩ : ∃ Z, Z = phC d := ⟨_, rfl⟩
  rw [← hCE] at IE SE OE HV1 ⊢
  obtain ⟨CR, hCR⟩ : ∃ Z, Z = phC e1 := ⟨_, rfl⟩
  rw [← hCR] at IR SR OR HU1 HBU
  obtain ⟨CS, hCS⟩ : ∃ Z, Z = phC e2 := ⟨_, rfl⟩
  rw [← hCS] at IS SS OS HV1 HBU
  obtain ⟨o1, ho1⟩ : ∃ o, o = fits a b := ⟨_, rfl⟩
  obtain ⟨o2, ho2⟩ : ∃ o, o = fits c d := ⟨_, rfl⟩
  rw [← ho1] at HU1 ⊢
  rw [← ho2] at HV1 ⊢
  have HU' := Lib.hid HU1
  have HV' := Lib.hid HV1
  clear HU HV HU1 HV1 he1 he2 hZ hC hCA hCB hCD hCE hCR hCS ho1 ho2 ha hb hc hd hab hcd
  cases o1 with
  | true =>
    have B0 := Lib.hid (Below.refl w.heap.size w)
    go_enter Try.func50, Try.ntmps50
    go_wp2_with (first
      | ((with_reducible refine at_op (Op.box 43 (.tmp 0)) ?_); refine wpList_box_row rfl 43 (.tmp 0) rfl CA rfl ?_; intro w1 hr hb hz; have R1_a := Lib.hid hr; have B1 := Lib.hid (joins B0.out hb); have L1_a := Lib.hid (show w.heap.size ≤ w.heap.size from B0.out.size); clear hr hb hz)
      | ((with_reducible refine at_op (Op.box 43 (.tmp 1)) ?_); refine wpList_box_row rfl 43 (.tmp 1) rfl CB rfl ?_; intro w2 hr hb hz; have N2_a_b := Lib.hid (Nat.ne_of_lt (row_lt R1_a.out)); have N2_b_a := Lib.hid (Ne.symm N2_a_b.out); have R2_a := Lib.hid (rowB R1_a.out hb); have R2_b := Lib.hid hr; have B2 := Lib.hid (joins B1.out hb); have L2_b := Lib.hid (show w.heap.size ≤ w1.heap.size from B1.out.size); clear hr hb hz)
      | ((with_reducible refine at_op (Op.box 43 (.tmp 2)) ?_); refine wpList_box_row rfl 43 (.tmp 2) rfl CD rfl ?_; intro w3 hr hb hz; have N3_a_c := Lib.hid (Nat.ne_of_lt (row_lt R2_a.out)); have N3_c_a := Lib.hid (Ne.symm N3_a_c.out); have N3_b_c := Lib.hid (Nat.ne_of_lt (row_lt R2_b.out)); have N3_c_b := Lib.hid (Ne.symm N3_b_c.out); have R3_a := Lib.hid (rowB R2_a.out hb); have R3_b := Lib.hid (rowB R2_b.out hb); have R3_c := Lib.hid hr; have B3 := Lib.hid (joins B2.out hb); have L3_c := Lib.hid (show w.heap.size ≤ w2.heap.size from B2.out.size); clear hr hb hz)
      | ((with_reducible refine at_op (Op.box 43 (.tmp 3)) ?_); refine wpList_box_row rfl 43 (.tmp 3) rfl CE rfl ?_; intro w4 hr hb hz; have N4_a_d := Lib.hid (Nat.ne_of_lt (row_lt R3_a.out)); have N4_d_a := Lib.hid (Ne.symm N4_a_d.out); have N4_b_d := Lib.hid (Nat.ne_of_lt (row_lt R3_b.out)); have N4_d_b := Lib.hid (Ne.symm N4_b_d.out); have N4_c_d := Lib.hid (Nat.ne_of_lt (row_lt R3_c.out)); have N4_d_c := Lib.hid (Ne.symm N4_c_d.out); have R4_a := Lib.hid (rowB R3_a.out hb); have R4_b := Lib.hid (rowB R3_b.out hb); have R4_c := Lib.hid (rowB R3_c.out hb); have R4_d := Lib.hid hr; have B4 := Lib.hid (joins B3.out hb); have L4_d := Lib.hid (show w.heap.size ≤ w3.heap.size from B3.out.size); clear hr hb hz)
      | ((with_reducible refine at_op (d := some 10) (Op.alloc 45) ?_); refine wpList_alloc_row rfl 45 rfl Z (fun w => ZZ.out w) ?_; intro w5 hr hb hz; have N5_a_r := Lib.hid (Nat.ne_of_lt (row_lt R4_a.out)); have N5_r_a := Lib.hid (Ne.symm N5_a_r.out); have N5_b_r := Lib.hid (Nat.ne_of_lt (row_lt R4_b.out)); have N5_r_b := Lib.hid (Ne.symm N5_b_r.out); have N5_c_r := Lib.hid (Nat.ne_of_lt (row_lt R4_c.out)); have N5_r_c := Lib.hid (Ne.symm N5_c_r.out); have N5_d_r := Lib.hid (Nat.ne_of_lt (row_lt R4_d.out)); have N5_r_d := Lib.hid (Ne.symm N5_d_r.out); have R5_a := Lib.hid (rowB R4_a.out hb); have R5_b := Lib.hid (rowB R4_b.out hb); have R5_c := Lib.hid (rowB R4_c.out hb); have R5_d := Lib.hid (rowB R4_d.out hb); have R5_r := Lib.hid hr; have B5 := Lib.hid (joins B4.out hb); have L5_r := Lib.hid (show w.heap.size ≤ w4.heap.size from B4.out.size); clear hr hb hz)
      | ((with_reducible refine at_op (Op.load 43 (.tmp 5)) ?_); refine wpList_load_part rfl 43 (.tmp 5) rfl (w.heap.size) 0 rfl CA CA 43 (0, 0) _ R5_a.out (Part.self _) Try.underlying43 rfl IA.out ?_)
      | ((with_reducible refine at_op (Op.load 43 (.tmp 6)) ?_); refine wpList_load_part rfl 43 (.tmp 6) rfl (w1.heap.size) 0 rfl CB CB 43 (0, 0) _ R5_b.out (Part.self _) Try.underlying43 rfl IB.out ?_))
    refine (HU'.out _).mono ?_
    rintro e w6 ⟨rfl, hb⟩
    have R6_a := Lib.hid (rowB R5_a.out hb)
    have R6_b := Lib.hid (rowB R5_b.out hb)
    have R6_c := Lib.hid (rowB R5_c.out hb)
    have R6_d := Lib.hid (rowB R5_d.out hb)
    have R6_r := Lib.hid (rowB R5_r.out hb)
    have B6 := Lib.hid (joins B5.out hb)
    clear hb
    go_wp2_with (first
      | ((with_reducible refine at_op (d := some 12) (Op.alloc 43) ?_); refine wpList_alloc_row rfl 43 rfl (phA z32 0) zeroPh ?_; intro w7 hr hb hz; have N7_c_x := Lib.hid (Nat.ne_of_lt (row_lt R6_c.out)); have N7_x_c := Lib.hid (Ne.symm N7_c_x.out); have N7_d_x := Lib.hid (Nat.ne_of_lt (row_lt R6_d.out)); have N7_x_d := Lib.hid (Ne.symm N7_d_x.out); have N7_r_x := Lib.hid (Nat.ne_of_lt (row_lt R6_r.out)); have N7_x_r := Lib.hid (Ne.symm N7_r_x.out); have R7_c := Lib.hid (rowB R6_c.out hb); have R7_d := Lib.hid (rowB R6_d.out hb); have R7_r := Lib.hid (rowB R6_r.out hb); have R7_x := Lib.hid hr; have B7 := Lib.hid (joins B6.out hb); have L7_x := Lib.hid (show w.heap.size ≤ w6.heap.size from B6.out.size); clear hr hb hz)
      | ((with_reducible refine at_op (Op.store 43 (.tmp 12) (.tmp 21)) ?_); refine wpList_put_row rfl 43 (.tmp 12) (.tmp 21) rfl (w6.heap.size) CR rfl rfl 43 (phA z32 0) R7_x.out 33 infoPh SR.out (phA_size _ _ z32_length) OR.out w.heap.size w B7.out L7_x.out ?_; intro w8 hr hs hb; have R8_c := Lib.hid (hs.row R7_c.out N7_c_x.out); have R8_d := Lib.hid (hs.row R7_d.out N7_d_x.out); have R8_r := Lib.hid (hs.row R7_r.out N7_r_x.out); have R8_x := Lib.hid hr; have B8 := Lib.hid hb; clear hr hs hb)
      | ((with_reducible refine at_op (Op.load 43 (.tmp 7)) ?_); refine wpList_load_part rfl 43 (.tmp 7) rfl (w2.heap.size) 0 rfl CD CD 43 (0, 0) _ R8_c.out (Part.self _) Try.underlying43 rfl ID.out ?_)
      | ((with_reducible refine at_op (Op.load 43 (.tmp 8)) ?_); refine wpList_load_part rfl 43 (.tmp 8) rfl (w3.heap.size) 0 rfl CE CE 43 (0, 0) _ R8_d.out (Part.self _) Try.underlying43 rfl IE.out ?_))
    refine (HV'.out _).mono ?_
    rintro e w9 ⟨rfl, hb⟩
    have R9_c := Lib.hid (rowB R8_c.out hb)
    have R9_d := Lib.hid (rowB R8_d.out hb)
    have R9_r := Lib.hid (rowB R8_r.out hb)
    have R9_x := Lib.hid (rowB R8_x.out hb)
    have B9 := Lib.hid (joins B8.out hb)
    clear hb
    go_wp2_with (first
      | ((with_reducible refine at_op (d := some 14) (Op.alloc 43) ?_); refine wpList_alloc_row rfl 43 rfl (phA z32 0) zeroPh ?_; intro w10 hr hb hz; have N10_r_y := Lib.hid (Nat.ne_of_lt (row_lt R9_r.out)); have N10_y_r := Lib.hid (Ne.symm N10_r_y.out); have N10_x_y := Lib.hid (Nat.ne_of_lt (row_lt R9_x.out)); have N10_y_x := Lib.hid (Ne.symm N10_x_y.out); have R10_r := Lib.hid (rowB R9_r.out hb); have R10_x := Lib.hid (rowB R9_x.out hb); have R10_y := Lib.hid hr; have B10 := Lib.hid (joins B9.out hb); have L10_y := Lib.hid (show w.heap.size ≤ w9.heap.size from B9.out.size); clear hr hb hz)
      | ((with_reducible refine at_op (Op.store 43 (.tmp 14) (.tmp 28)) ?_); refine wpList_put_row rfl 43 (.tmp 14) (.tmp 28) rfl (w9.heap.size) CS rfl rfl 43 (phA z32 0) R10_y.out 33 infoPh SS.out (phA_size _ _ z32_length) OS.out w.heap.size w B10.out L10_y.out ?_; intro w11 hr hs hb; have R11_r := Lib.hid (hs.row R10_r.out N10_r_y.out); have R11_x := Lib.hid (hs.row R10_x.out N10_x_y.out); have R11_y := Lib.hid hr; have B11 := Lib.hid hb; clear hr hs hb)
      | ((with_reducible refine at_op (Op.load 43 (.tmp 12)) ?_); refine wpList_load_part rfl 43 (.tmp 12) rfl (w6.heap.size) 0 rfl CR CR 43 (0, 0) _ R11_x.out (Part.self _) Try.underlying43 rfl IR.out ?_)
      | ((with_reducible refine at_op (Op.load 43 (.tmp 14)) ?_); refine wpList_load_part rfl 43 (.tmp 14) rfl (w9.heap.size) 0 rfl CS CS 43 (0, 0) _ R11_y.out (Part.self _) Try.underlying43 rfl IS.out ?_)
      | ((with_reducible refine at_op (Op.build 45 #[(0, .tmp 30), (1, .tmp 31)]) ?_); refine wpList_build_row rfl 45 [(0, .tmp 30), (1, .tmp 31)] rfl C HBU.out ?_)
      | ((with_reducible refine at_op (Op.store 45 (.tmp 10) (.tmp 32)) ?_); refine wpList_put_row rfl 45 (.tmp 10) (.tmp 32) rfl (w4.heap.size) C rfl rfl 45 Z R11_r.out 66 infoPr SC.out SZ.out OC.out w.heap.size w B11.out L5_r.out ?_; intro w12 hr hs hb; have R12_x := Lib.hid (hs.row R11_x.out N7_x_r.out); have R12_y := Lib.hid (hs.row R11_y.out N10_y_r.out); have R12_r := Lib.hid hr; have B12 := Lib.hid hb; clear hr hs hb))
    refine bodyPost_ret (v := .tuple #[.agg C, .bool (true && o2)]) ?_ rfl ⟨rfl, B12.out⟩
    rw [results_cell_tmp (p := 10) (u := 11) (ty := 45) Try.results50]
    simp [asAddr, run_loadVar_row _ (w4.heap.size) 45 45 _ (0, 0) _ R12_r.out Try.underlying45 rfl IC.out, Result.andThen]
  | false =>
    have B0 := Lib.hid (Below.refl w.heap.size w)
    go_enter Try.func50, Try.ntmps50
    go_wp2_with (first
      | ((with_reducible refine at_op (Op.box 43 (.tmp 0)) ?_); refine wpList_box_row rfl 43 (.tmp 0) rfl CA rfl ?_; intro w1 hr hb hz; have R1_a := Lib.hid hr; have B1 := Lib.hid (joins B0.out hb); have L1_a := Lib.hid (show w.heap.size ≤ w.heap.size from B0.out.size); clear hr hb hz)
      | ((with_reducible refine at_op (Op.box 43 (.tmp 1)) ?_); refine wpList_box_row rfl 43 (.tmp 1) rfl CB rfl ?_; intro w2 hr hb hz; have N2_a_b := Lib.hid (Nat.ne_of_lt (row_lt R1_a.out)); have N2_b_a := Lib.hid (Ne.symm N2_a_b.out); have R2_a := Lib.hid (rowB R1_a.out hb); have R2_b := Lib.hid hr; have B2 := Lib.hid (joins B1.out hb); have L2_b := Lib.hid (show w.heap.size ≤ w1.heap.size from B1.out.size); clear hr hb hz)
      | ((with_reducible refine at_op (Op.box 43 (.tmp 2)) ?_); refine wpList_box_row rfl 43 (.tmp 2) rfl CD rfl ?_; intro w3 hr hb hz; have N3_a_c := Lib.hid (Nat.ne_of_lt (row_lt R2_a.out)); have N3_c_a := Lib.hid (Ne.symm N3_a_c.out); have N3_b_c := Lib.hid (Nat.ne_of_lt (row_lt R2_b.out)); have N3_c_b := Lib.hid (Ne.symm N3_b_c.out); have R3_a := Lib.hid (rowB R2_a.out hb); have R3_b := Lib.hid (rowB R2_b.out hb); have R3_c := Lib.hid hr; have B3 := Lib.hid (joins B2.out hb); have L3_c := Lib.hid (show w.heap.size ≤ w2.heap.size from B2.out.size); clear hr hb hz)
      | ((with_reducible refine at_op (Op.box 43 (.tmp 3)) ?_); refine wpList_box_row rfl 43 (.tmp 3) rfl CE rfl ?_; intro w4 hr hb hz; have N4_a_d := Lib.hid (Nat.ne_of_lt (row_lt R3_a.out)); have N4_d_a := Lib.hid (Ne.symm N4_a_d.out); have N4_b_d := Lib.hid (Nat.ne_of_lt (row_lt R3_b.out)); have N4_d_b := Lib.hid (Ne.symm N4_b_d.out); have N4_c_d := Lib.hid (Nat.ne_of_lt (row_lt R3_c.out)); have N4_d_c := Lib.hid (Ne.symm N4_c_d.out); have R4_a := Lib.hid (rowB R3_a.out hb); have R4_b := Lib.hid (rowB R3_b.out hb); have R4_c := Lib.hid (rowB R3_c.out hb); have R4_d := Lib.hid hr; have B4 := Lib.hid (joins B3.out hb); have L4_d := Lib.hid (show w.heap.size ≤ w3.heap.size from B3.out.size); clear hr hb hz)
      | ((with_reducible refine at_op (d := some 10) (Op.alloc 45) ?_); refine wpList_alloc_row rfl 45 rfl Z (fun w => ZZ.out w) ?_; intro w5 hr hb hz; have N5_a_r := Lib.hid (Nat.ne_of_lt (row_lt R4_a.out)); have N5_r_a := Lib.hid (Ne.symm N5_a_r.out); have N5_b_r := Lib.hid (Nat.ne_of_lt (row_lt R4_b.out)); have N5_r_b := Lib.hid (Ne.symm N5_b_r.out); have N5_c_r := Lib.hid (Nat.ne_of_lt (row_lt R4_c.out)); have N5_r_c := Lib.hid (Ne.symm N5_c_r.out); have N5_d_r := Lib.hid (Nat.ne_of_lt (row_lt R4_d.out)); have N5_r_d := Lib.hid (Ne.symm N5_d_r.out); have R5_a := Lib.hid (rowB R4_a.out hb); have R5_b := Lib.hid (rowB R4_b.out hb); have R5_c := Lib.hid (rowB R4_c.out hb); have R5_d := Lib.hid (rowB R4_d.out hb); have R5_r := Lib.hid hr; have B5 := Lib.hid (joins B4.out hb); have L5_r := Lib.hid (show w.heap.size ≤ w4.heap.size from B4.out.size); clear hr hb hz)
      | ((with_reducible refine at_op (Op.load 43 (.tmp 5)) ?_); refine wpList_load_part rfl 43 (.tmp 5) rfl (w.heap.size) 0 rfl CA CA 43 (0, 0) _ R5_a.out (Part.self _) Try.underlying43 rfl IA.out ?_)
      | ((with_reducible refine at_op (Op.load 43 (.tmp 6)) ?_); refine wpList_load_part rfl 43 (.tmp 6) rfl (w1.heap.size) 0 rfl CB CB 43 (0, 0) _ R5_b.out (Part.self _) Try.underlying43 rfl IB.out ?_))
    refine (HU'.out _).mono ?_
    rintro e w6 ⟨rfl, hb⟩
    have R6_a := Lib.hid (rowB R5_a.out hb)
    have R6_b := Lib.hid (rowB R5_b.out hb)
    have R6_c := Lib.hid (rowB R5_c.out hb)
    have R6_d := Lib.hid (rowB R5_d.out hb)
    have R6_r := Lib.hid (rowB R5_r.out hb)
    have B6 := Lib.hid (joins B5.out hb)
    clear hb
    go_wp2_with (first
      | ((with_reducible refine at_op (d := some 12) (Op.alloc 43) ?_); refine wpList_alloc_row rfl 43 rfl (phA z32 0) zeroPh ?_; intro w7 hr hb hz; have N7_c_x := Lib.hid (Nat.ne_of_lt (row_lt R6_c.out)); have N7_x_c := Lib.hid (Ne.symm N7_c_x.out); have N7_d_x := Lib.hid (Nat.ne_of_lt (row_lt R6_d.out)); have N7_x_d := Lib.hid (Ne.symm N7_d_x.out); have N7_r_x := Lib.hid (Nat.ne_of_lt (row_lt R6_r.out)); have N7_x_r := Lib.hid (Ne.symm N7_r_x.out); have R7_c := Lib.hid (rowB R6_c.out hb); have R7_d := Lib.hid (rowB R6_d.out hb); have R7_r := Lib.hid (rowB R6_r.out hb); have R7_x := Lib.hid hr; have B7 := Lib.hid (joins B6.out hb); have L7_x := Lib.hid (show w.heap.size ≤ w6.heap.size from B6.out.size); clear hr hb hz)
      | ((with_reducible refine at_op (Op.store 43 (.tmp 12) (.tmp 21)) ?_); refine wpList_put_row rfl 43 (.tmp 12) (.tmp 21) rfl (w6.heap.size) CR rfl rfl 43 (phA z32 0) R7_x.out 33 infoPh SR.out (phA_size _ _ z32_length) OR.out w.heap.size w B7.out L7_x.out ?_; intro w8 hr hs hb; have R8_c := Lib.hid (hs.row R7_c.out N7_c_x.out); have R8_d := Lib.hid (hs.row R7_d.out N7_d_x.out); have R8_r := Lib.hid (hs.row R7_r.out N7_r_x.out); have R8_x := Lib.hid hr; have B8 := Lib.hid hb; clear hr hs hb)
      | ((with_reducible refine at_op (Op.load 43 (.tmp 7)) ?_); refine wpList_load_part rfl 43 (.tmp 7) rfl (w2.heap.size) 0 rfl CD CD 43 (0, 0) _ R8_c.out (Part.self _) Try.underlying43 rfl ID.out ?_)
      | ((with_reducible refine at_op (Op.load 43 (.tmp 8)) ?_); refine wpList_load_part rfl 43 (.tmp 8) rfl (w3.heap.size) 0 rfl CE CE 43 (0, 0) _ R8_d.out (Part.self _) Try.underlying43 rfl IE.out ?_))
    refine (HV'.out _).mono ?_
    rintro e w9 ⟨rfl, hb⟩
    have R9_c := Lib.hid (rowB R8_c.out hb)
    have R9_d := Lib.hid (rowB R8_d.out hb)
    have R9_r := Lib.hid (rowB R8_r.out hb)
    have R9_x := Lib.hid (rowB R8_x.out hb)
    have B9 := Lib.hid (joins B8.out hb)
    clear hb
    go_wp2_with (first
      | ((with_reducible refine at_op (d := some 14) (Op.alloc 43) ?_); refine wpList_alloc_row rfl 43 rfl (phA z32 0) zeroPh ?_; intro w10 hr hb hz; have N10_r_y := Lib.hid (Nat.ne_of_lt (row_lt R9_r.out)); have N10_y_r := Lib.hid (Ne.symm N10_r_y.out); have N10_x_y := Lib.hid (Nat.ne_of_lt (row_lt R9_x.out)); have N10_y_x := Lib.hid (Ne.symm N10_x_y.out); have R10_r := Lib.hid (rowB R9_r.out hb); have R10_x := Lib.hid (rowB R9_x.out hb); have R10_y := Lib.hid hr; have B10 := Lib.hid (joins B9.out hb); have L10_y := Lib.hid (show w.heap.size ≤ w9.heap.size from B9.out.size); clear hr hb hz)
      | ((with_reducible refine at_op (Op.store 43 (.tmp 14) (.tmp 28)) ?_); refine wpList_put_row rfl 43 (.tmp 14) (.tmp 28) rfl (w9.heap.size) CS rfl rfl 43 (phA z32 0) R10_y.out 33 infoPh SS.out (phA_size _ _ z32_length) OS.out w.heap.size w B10.out L10_y.out ?_; intro w11 hr hs hb; have R11_r := Lib.hid (hs.row R10_r.out N10_r_y.out); have R11_x := Lib.hid (hs.row R10_x.out N10_x_y.out); have R11_y := Lib.hid hr; have B11 := Lib.hid hb; clear hr hs hb)
      | ((with_reducible refine at_op (Op.load 43 (.tmp 12)) ?_); refine wpList_load_part rfl 43 (.tmp 12) rfl (w6.heap.size) 0 rfl CR CR 43 (0, 0) _ R11_x.out (Part.self _) Try.underlying43 rfl IR.out ?_)
      | ((with_reducible refine at_op (Op.load 43 (.tmp 14)) ?_); refine wpList_load_part rfl 43 (.tmp 14) rfl (w9.heap.size) 0 rfl CS CS 43 (0, 0) _ R11_y.out (Part.self _) Try.underlying43 rfl IS.out ?_)
      | ((with_reducible refine at_op (Op.build 45 #[(0, .tmp 30), (1, .tmp 31)]) ?_); refine wpList_build_row rfl 45 [(0, .tmp 30), (1, .tmp 31)] rfl C HBU.out ?_)
      | ((with_reducible refine at_op (Op.store 45 (.tmp 10) (.tmp 32)) ?_); refine wpList_put_row rfl 45 (.tmp 10) (.tmp 32) rfl (w4.heap.size) C rfl rfl 45 Z R11_r.out 66 infoPr SC.out SZ.out OC.out w.heap.size w B11.out L5_r.out ?_; intro w12 hr hs hb; have R12_x := Lib.hid (hs.row R11_x.out N7_x_r.out); have R12_y := Lib.hid (hs.row R11_y.out N10_y_r.out); have R12_r := Lib.hid hr; have B12 := Lib.hid hb; clear hr hs hb))
    refine bodyPost_ret (v := .tuple #[.agg C, .bool (false && o2)]) ?_ rfl ⟨rfl, B12.out⟩
    rw [results_cell_tmp (p := 10) (u := 11) (ty := 45) Try.results50]
    simp [asAddr, run_loadVar_row _ (w4.heap.size) 45 45 _ (0, 0) _ R12_r.out Try.underlying45 rfl IC.out, Result.andThen]

set_option maxHeartbeats 4000000 in
theorem bothSigns_joined (a b : List Int) (ha : isSeq a = true) (hb : isSeq b = true) (hab : a.length = b.length) (w : World) :
    Calls Try.prog 47 #[.agg (phC a), .agg (phC b), .func (.func 49) #[] #[]] w
      (Ret w (.tuple #[.agg (prC (iff (fits a b) (a ++ b)) (iff (fits a b) (a ++ (turnG b 2)))), .bool (fits a b)])) := by
  have hbt := turnG_seq b 2 hb
  have HB := bothMade_joined a b a (turnG b 2) ha hb ha hbt hab (by rw [turnG_length]; exact hab)
  rw [show fits a (turnG b 2) = fits a b from rfl, Bool.and_self] at HB
  have HT := turnedC b 2 hb (by omega) (by omega)
  obtain ⟨e1, he1⟩ : ∃ e, e = iff (fits a b) (a ++ b) := ⟨_, rfl⟩
  obtain ⟨e2, he2⟩ : ∃ e, e = iff (fits a b) (a ++ (turnG b 2)) := ⟨_, rfl⟩
  rw [← he1, ← he2] at HB ⊢
  have IA := Lib.hid (infoPhC a)
  have IB := Lib.hid (infoPhC b)
  have SC := Lib.hid (prC_size e1 e2)
  have OC := Lib.hid (prC_one e1 e2)
  have IC := Lib.hid (infoPrC e1 e2)
  have SZ := Lib.hid (prC_size [] [])
  have ZZ := Lib.hid zeroPr
  obtain ⟨Z, hZ⟩ : ∃ Z, Z = prC [] [] := ⟨_, rfl⟩
  rw [← hZ] at SZ ZZ
  obtain ⟨C, hC⟩ : ∃ Z, Z = prC e1 e2 := ⟨_, rfl⟩
  rw [← hC] at SC OC IC HB ⊢
  obtain ⟨CA, hCA⟩ : ∃ Z, Z = phC a := ⟨_, rfl⟩
  obtain ⟨CB, hCB⟩ : ∃ Z, Z = phC b := ⟨_, rfl⟩
  obtain ⟨CT, hCT⟩ : ∃ Z, Z = phC (turnG b 2) := ⟨_, rfl⟩
  rw [← hCA] at HB IA ⊢
  rw [← hCB] at HB HT IB ⊢
  rw [← hCT] at HB HT
  obtain ⟨o1, ho1⟩ : ∃ o, o = fits a b := ⟨_, rfl⟩
  rw [← ho1] at HB ⊢
  have HB' := Lib.hid HB
  have HT' := Lib.hid HT
  clear HB HT he1 he2 hZ hC hCA hCB hCT ho1 ha hb hab hbt
  have B0 := Lib.hid (Below.refl w.heap.size w)
  go_enter Try.func47, Try.ntmps47
  go_wp2_with (first
    | ((with_reducible refine at_op (Op.box 43 (.tmp 0)) ?_); refine wpList_box_row rfl 43 (.tmp 0) rfl CA rfl ?_; intro w1 hr hb hz; have R1_a := Lib.hid hr; have B1 := Lib.hid (joins B0.out hb); have L1_a := Lib.hid (show w.heap.size ≤ w.heap.size from B0.out.size); clear hr hb hz)
    | ((with_reducible refine at_op (Op.box 43 (.tmp 1)) ?_); refine wpList_box_row rfl 43 (.tmp 1) rfl CB rfl ?_; intro w2 hr hb hz; have N2_a_b := Lib.hid (Nat.ne_of_lt (row_lt R1_a.out)); have N2_b_a := Lib.hid (Ne.symm N2_a_b.out); have R2_a := Lib.hid (rowB R1_a.out hb); have R2_b := Lib.hid hr; have B2 := Lib.hid (joins B1.out hb); have L2_b := Lib.hid (show w.heap.size ≤ w1.heap.size from B1.out.size); clear hr hb hz)
    | ((with_reducible refine at_op (d := some 6) (Op.alloc 45) ?_); refine wpList_alloc_row rfl 45 rfl Z (fun w => ZZ.out w) ?_; intro w3 hr hb hz; have N3_a_r := Lib.hid (Nat.ne_of_lt (row_lt R2_a.out)); have N3_r_a := Lib.hid (Ne.symm N3_a_r.out); have N3_b_r := Lib.hid (Nat.ne_of_lt (row_lt R2_b.out)); have N3_r_b := Lib.hid (Ne.symm N3_b_r.out); have R3_a := Lib.hid (rowB R2_a.out hb); have R3_b := Lib.hid (rowB R2_b.out hb); have R3_r := Lib.hid hr; have B3 := Lib.hid (joins B2.out hb); have L3_r := Lib.hid (show w.heap.size ≤ w2.heap.size from B2.out.size); clear hr hb hz))
  refine wp_region_held_drew (S := (fun w' => World.grownBy w3 w' (some (w2.heap.size)))) (by kernel_rfl) (grownDrew (World.grownBy.refl _ _)) ?_
  obtain ⟨w4, hdw⟩ : ∃ w', w' = w3.drew := ⟨_, rfl⟩
  rw [← hdw]
  have hb : Below w3.heap.size w3 w4 := by rw [hdw]; exact belowN (Below.refl _ _) 1
  have R4_a := Lib.hid (rowB R3_a.out hb)
  have R4_b := Lib.hid (rowB R3_b.out hb)
  have R4_r := Lib.hid (rowB R3_r.out hb)
  have B4 := Lib.hid (joins B3.out hb)
  clear hdw hb
  intro hHeld
  refine' wpAnyH_take (i := 0) (v := _) rfl (by kernel_rfl) (by kernel_rfl) (by kernel_rfl) (fun _ _ _ h => h) (yieldsPart (by rfl) 43 (.tmp 3) rfl (w.heap.size) 0 rfl CA CA 43 (0, 0) _ (fun w h => (rowG R3_a.out h (fun e => N3_a_r.out (Option.some.inj e)))) (Part.self _) Try.underlying43 rfl IA.out) (by assumption) ?rest1
  (try simp only [Act.put, List.getElem_toArray, List.getElem_cons_zero, List.setIfInBounds_toArray, List.set_cons_zero, List.set_cons_succ])
  refine' wpAnyH_take (i := 1) (v := _) rfl (by kernel_rfl) (by kernel_rfl) (by kernel_rfl) (fun _ _ _ h => h) (yieldsPart (by rfl) 43 (.tmp 4) rfl (w1.heap.size) 0 rfl CB CB 43 (0, 0) _ (fun w h => (rowG R3_b.out h (fun e => N3_b_r.out (Option.some.inj e)))) (Part.self _) Try.underlying43 rfl IB.out) (by assumption) ?rest2
  (try simp only [Act.put, List.getElem_toArray, List.getElem_cons_zero, List.getElem_cons_succ, List.setIfInBounds_toArray, List.set_cons_zero, List.set_cons_succ])
  refine' wpAnyH_take (i := 2) (v := _) rfl (by kernel_rfl) (by kernel_rfl) (by kernel_rfl) (fun _ _ _ h => h) (yieldsPart (by rfl) 43 (.tmp 3) rfl (w.heap.size) 0 rfl CA CA 43 (0, 0) _ (fun w h => (rowG R3_a.out h (fun e => N3_a_r.out (Option.some.inj e)))) (Part.self _) Try.underlying43 rfl IA.out) (by assumption) ?rest3
  (try simp only [Act.put, List.getElem_toArray, List.getElem_cons_zero, List.getElem_cons_succ, List.setIfInBounds_toArray, List.set_cons_zero, List.set_cons_succ])
  refine' wpAnyH_take (i := 3) (v := _) rfl (by kernel_rfl) (by kernel_rfl) (by kernel_rfl) (fun _ _ _ h => h) (yieldsPart (by rfl) 43 (.tmp 4) rfl (w1.heap.size) 0 rfl CB CB 43 (0, 0) _ (fun w h => (rowG R3_b.out h (fun e => N3_b_r.out (Option.some.inj e)))) (Part.self _) Try.underlying43 rfl IB.out) (by assumption) ?rest4
  (try simp only [Act.put, List.getElem_toArray, List.getElem_cons_zero, List.getElem_cons_succ, List.setIfInBounds_toArray, List.set_cons_zero, List.set_cons_succ])
  refine' wpAnyH_take (i := 5) (v := _) rfl (by kernel_rfl) (by kernel_rfl) (by kernel_rfl) (fun _ _ _ h => h) (Or.inl ⟨by rfl, ?hy5⟩) (by assumption) ?rest5
  case hy5 =>
    intro w h
    (try clear h)
    go_simp
    (try with_reducible rfl)
  (try simp only [Act.put, List.getElem_toArray, List.getElem_cons_zero, List.getElem_cons_succ, List.setIfInBounds_toArray, List.set_cons_zero, List.set_cons_succ])
  refine wpAnyH_ready (rs := [4]) (by kernel_rfl) (by simp) ?_
  refine AllReadyH.cons rfl (fun K hK => ?_) AllReadyH.nil
  go_simp
  refine (HT'.out _).mono ?_
  rintro e w5 ⟨rfl, hb⟩
  have R5_a := Lib.hid (rowB R4_a.out hb)
  have R5_b := Lib.hid (rowB R4_b.out hb)
  have R5_r := Lib.hid (rowB R4_r.out hb)
  have B5 := Lib.hid (joins B4.out hb)
  have hHeld := grownB hHeld hb
  clear hb
  refine hK.out _ _ hHeld (fun hHeld => ?_)
  clear hK K
  (try simp only [Act.put, List.getElem_toArray, List.getElem_cons_zero, List.getElem_cons_succ, List.setIfInBounds_toArray, List.set_cons_zero, List.set_cons_succ])
  refine wpAnyH_ready (rs := [6]) (by kernel_rfl) (by simp) ?_
  refine AllReadyH.cons rfl (fun K hK => ?_) AllReadyH.nil
  go_simp
  refine (HB'.out _).mono ?_
  rintro e w6 ⟨rfl, hb⟩
  have R6_a := Lib.hid (rowB R5_a.out hb)
  have R6_b := Lib.hid (rowB R5_b.out hb)
  have R6_r := Lib.hid (rowB R5_r.out hb)
  have B6 := Lib.hid (joins B5.out hb)
  have hHeld := grownB hHeld hb
  clear hb
  refine hK.out _ _ hHeld (fun hHeld => ?_)
  clear hK K
  (try simp only [Act.put, List.getElem_toArray, List.getElem_cons_zero, List.getElem_cons_succ, List.setIfInBounds_toArray, List.set_cons_zero, List.set_cons_succ])
  refine' wpAnyH_take (i := 7) (v := _) rfl (by kernel_rfl) (by kernel_rfl) (by kernel_rfl) (fun _ _ _ h => h) (Or.inl ⟨by rfl, ?hy6⟩) (by assumption) ?rest6
  case hy6 =>
    intro w h
    (try clear h)
    go_simp
    (try with_reducible rfl)
  (try simp only [Act.put, List.getElem_toArray, List.getElem_cons_zero, List.getElem_cons_succ, List.setIfInBounds_toArray, List.set_cons_zero, List.set_cons_succ])
  refine' wpAnyH_take (i := 8) (v := _) rfl (by kernel_rfl) (by kernel_rfl) (by kernel_rfl) (fun _ _ _ h => h) (Or.inl ⟨by rfl, ?hy7⟩) (by assumption) ?rest7
  case hy7 =>
    intro w h
    (try clear h)
    go_simp
    (try with_reducible rfl)
  (try simp only [Act.put, List.getElem_toArray, List.getElem_cons_zero, List.getElem_cons_succ, List.setIfInBounds_toArray, List.set_cons_zero, List.set_cons_succ])
  refine wpAnyH_ready (rs := [9]) (by kernel_rfl) (by simp) ?_
  refine AllReadyH.cons rfl (fun K hK => ?_) AllReadyH.nil
  rw [if_pos (by rfl)]
  refine wp_put_row 45 (.tmp 6) (.tmp 15) rfl (w2.heap.size) C rfl rfl 45 Z R6_r.out 66 infoPr SC.out SZ.out OC.out w.heap.size w B6.out L3_r.out ?_
  intro w7 hr hs hb
  have R7_a := Lib.hid (hs.row R6_a.out N3_a_r.out)
  have R7_b := Lib.hid (hs.row R6_b.out N3_b_r.out)
  have R7_r := Lib.hid hr
  have B7 := Lib.hid hb
  have hHeld := grownS hHeld hs hb B6.out
  clear hr hs hb
  refine hK.out _ _ hHeld (fun hHeld => ?_)
  clear hK K
  (try simp only [Act.put])
  refine' wpAnyH_take (i := 10) (v := _) rfl (by kernel_rfl) (by kernel_rfl) (by kernel_rfl) (fun _ _ _ h => h) (Or.inl ⟨by rfl, ?hy8⟩) (by assumption) ?rest8
  case hy8 =>
    intro w h
    (try clear h)
    go_simp
    (try with_reducible rfl)
  (try simp only [Act.put, List.getElem_toArray, List.getElem_cons_zero, List.getElem_cons_succ, List.setIfInBounds_toArray, List.set_cons_zero, List.set_cons_succ])
  refine wpAnyH_done (by kernel_rfl) ?_ _
  go_wp2_with fail
  refine bodyPost_ret (v := .tuple #[.agg C, .bool o1]) ?_ rfl ⟨rfl, B7.out⟩
  rw [results_cell_tmp (p := 6) (u := 7) (ty := 45) Try.results47]
  simp [asAddr, run_loadVar_row _ (w2.heap.size) 45 45 _ (0, 0) _ R7_r.out Try.underlying45 rfl IC.out, Result.andThen]

set_option maxHeartbeats 4000000 in
theorem bothSigns_interleaved (a b : List Int) (ha : isSeq a = true) (hb : isSeq b = true) (hab : a.length = b.length) (w : World) :
    Calls Try.prog 47 #[.agg (phC a), .agg (phC b), .func (.func 52) #[] #[]] w
      (Ret w (.tuple #[.agg (prC (iff (fits a b) (weaveG a b)) (iff (fits a b) (weaveG a (turnG b 2)))), .bool (fits a b)])) := by
  have hbt := turnG_seq b 2 hb
  have HB := bothMade_interleaved a b a (turnG b 2) ha hb ha hbt hab (by rw [turnG_length]; exact hab)
  rw [show fits a (turnG b 2) = fits a b from rfl, Bool.and_self] at HB
  have HT := turnedC b 2 hb (by omega) (by omega)
  obtain ⟨e1, he1⟩ : ∃ e, e = iff (fits a b) (weaveG a b) := ⟨_, rfl⟩
  obtain ⟨e2, he2⟩ : ∃ e, e = iff (fits a b) (weaveG a (turnG b 2)) := ⟨_, rfl⟩
  rw [← he1, ← he2] at HB ⊢
  have IA := Lib.hid (infoPhC a)
  have IB := Lib.hid (infoPhC b)
  have SC := Lib.hid (prC_size e1 e2)
  have OC := Lib.hid (prC_one e1 e2)
  have IC := Lib.hid (infoPrC e1 e2)
  have SZ := Lib.hid (prC_size [] [])
  have ZZ := Lib.hid zeroPr
  obtain ⟨Z, hZ⟩ : ∃ Z, Z = prC [] [] := ⟨_, rfl⟩
  rw [← hZ] at SZ ZZ
  obtain ⟨C, hC⟩ : ∃ Z, Z = prC e1 e2 := ⟨_, rfl⟩
  rw [← hC] at SC OC IC HB ⊢
  obtain ⟨CA, hCA⟩ : ∃ Z, Z = phC a := ⟨_, rfl⟩
  obtain ⟨CB, hCB⟩ : ∃ Z, Z = phC b := ⟨_, rfl⟩
  obtain ⟨CT, hCT⟩ : ∃ Z, Z = phC (turnG b 2) := ⟨_, rfl⟩
  rw [← hCA] at HB IA ⊢
  rw [← hCB] at HB HT IB ⊢
  rw [← hCT] at HB HT
  obtain ⟨o1, ho1⟩ : ∃ o, o = fits a b := ⟨_, rfl⟩
  rw [← ho1] at HB ⊢
  have HB' := Lib.hid HB
  have HT' := Lib.hid HT
  clear HB HT he1 he2 hZ hC hCA hCB hCT ho1 ha hb hab hbt
  have B0 := Lib.hid (Below.refl w.heap.size w)
  go_enter Try.func47, Try.ntmps47
  go_wp2_with (first
    | ((with_reducible refine at_op (Op.box 43 (.tmp 0)) ?_); refine wpList_box_row rfl 43 (.tmp 0) rfl CA rfl ?_; intro w1 hr hb hz; have R1_a := Lib.hid hr; have B1 := Lib.hid (joins B0.out hb); have L1_a := Lib.hid (show w.heap.size ≤ w.heap.size from B0.out.size); clear hr hb hz)
    | ((with_reducible refine at_op (Op.box 43 (.tmp 1)) ?_); refine wpList_box_row rfl 43 (.tmp 1) rfl CB rfl ?_; intro w2 hr hb hz; have N2_a_b := Lib.hid (Nat.ne_of_lt (row_lt R1_a.out)); have N2_b_a := Lib.hid (Ne.symm N2_a_b.out); have R2_a := Lib.hid (rowB R1_a.out hb); have R2_b := Lib.hid hr; have B2 := Lib.hid (joins B1.out hb); have L2_b := Lib.hid (show w.heap.size ≤ w1.heap.size from B1.out.size); clear hr hb hz)
    | ((with_reducible refine at_op (d := some 6) (Op.alloc 45) ?_); refine wpList_alloc_row rfl 45 rfl Z (fun w => ZZ.out w) ?_; intro w3 hr hb hz; have N3_a_r := Lib.hid (Nat.ne_of_lt (row_lt R2_a.out)); have N3_r_a := Lib.hid (Ne.symm N3_a_r.out); have N3_b_r := Lib.hid (Nat.ne_of_lt (row_lt R2_b.out)); have N3_r_b := Lib.hid (Ne.symm N3_b_r.out); have R3_a := Lib.hid (rowB R2_a.out hb); have R3_b := Lib.hid (rowB R2_b.out hb); have R3_r := Lib.hid hr; have B3 := Lib.hid (joins B2.out hb); have L3_r := Lib.hid (show w.heap.size ≤ w2.heap.size from B2.out.size); clear hr hb hz))
  refine wp_region_held_drew (S := (fun w' => World.grownBy w3 w' (some (w2.heap.size)))) (by kernel_rfl) (grownDrew (World.grownBy.refl _ _)) ?_
  obtain ⟨w4, hdw⟩ : ∃ w', w' = w3.drew := ⟨_, rfl⟩
  rw [← hdw]
  have hb : Below w3.heap.size w3 w4 := by rw [hdw]; exact belowN (Below.refl _ _) 1
  have R4_a := Lib.hid (rowB R3_a.out hb)
  have R4_b := Lib.hid (rowB R3_b.out hb)
  have R4_r := Lib.hid (rowB R3_r.out hb)
  have B4 := Lib.hid (joins B3.out hb)
  clear hdw hb
  intro hHeld
  refine' wpAnyH_take (i := 0) (v := _) rfl (by kernel_rfl) (by kernel_rfl) (by kernel_rfl) (fun _ _ _ h => h) (yieldsPart (by rfl) 43 (.tmp 3) rfl (w.heap.size) 0 rfl CA CA 43 (0, 0) _ (fun w h => (rowG R3_a.out h (fun e => N3_a_r.out (Option.some.inj e)))) (Part.self _) Try.underlying43 rfl IA.out) (by assumption) ?rest9
  (try simp only [Act.put, List.getElem_toArray, List.getElem_cons_zero, List.setIfInBounds_toArray, List.set_cons_zero, List.set_cons_succ])
  refine' wpAnyH_take (i := 1) (v := _) rfl (by kernel_rfl) (by kernel_rfl) (by kernel_rfl) (fun _ _ _ h => h) (yieldsPart (by rfl) 43 (.tmp 4) rfl (w1.heap.size) 0 rfl CB CB 43 (0, 0) _ (fun w h => (rowG R3_b.out h (fun e => N3_b_r.out (Option.some.inj e)))) (Part.self _) Try.underlying43 rfl IB.out) (by assumption) ?rest10
  (try simp only [Act.put, List.getElem_toArray, List.getElem_cons_zero, List.getElem_cons_succ, List.setIfInBounds_toArray, List.set_cons_zero, List.set_cons_succ])
  refine' wpAnyH_take (i := 2) (v := _) rfl (by kernel_rfl) (by kernel_rfl) (by kernel_rfl) (fun _ _ _ h => h) (yieldsPart (by rfl) 43 (.tmp 3) rfl (w.heap.size) 0 rfl CA CA 43 (0, 0) _ (fun w h => (rowG R3_a.out h (fun e => N3_a_r.out (Option.some.inj e)))) (Part.self _) Try.underlying43 rfl IA.out) (by assumption) ?rest11
  (try simp only [Act.put, List.getElem_toArray, List.getElem_cons_zero, List.getElem_cons_succ, List.setIfInBounds_toArray, List.set_cons_zero, List.set_cons_succ])
  refine' wpAnyH_take (i := 3) (v := _) rfl (by kernel_rfl) (by kernel_rfl) (by kernel_rfl) (fun _ _ _ h => h) (yieldsPart (by rfl) 43 (.tmp 4) rfl (w1.heap.size) 0 rfl CB CB 43 (0, 0) _ (fun w h => (rowG R3_b.out h (fun e => N3_b_r.out (Option.some.inj e)))) (Part.self _) Try.underlying43 rfl IB.out) (by assumption) ?rest12
  (try simp only [Act.put, List.getElem_toArray, List.getElem_cons_zero, List.getElem_cons_succ, List.setIfInBounds_toArray, List.set_cons_zero, List.set_cons_succ])
  refine' wpAnyH_take (i := 5) (v := _) rfl (by kernel_rfl) (by kernel_rfl) (by kernel_rfl) (fun _ _ _ h => h) (Or.inl ⟨by rfl, ?hy13⟩) (by assumption) ?rest13
  case hy13 =>
    intro w h
    (try clear h)
    go_simp
    (try with_reducible rfl)
  (try simp only [Act.put, List.getElem_toArray, List.getElem_cons_zero, List.getElem_cons_succ, List.setIfInBounds_toArray, List.set_cons_zero, List.set_cons_succ])
  refine wpAnyH_ready (rs := [4]) (by kernel_rfl) (by simp) ?_
  refine AllReadyH.cons rfl (fun K hK => ?_) AllReadyH.nil
  go_simp
  refine (HT'.out _).mono ?_
  rintro e w5 ⟨rfl, hb⟩
  have R5_a := Lib.hid (rowB R4_a.out hb)
  have R5_b := Lib.hid (rowB R4_b.out hb)
  have R5_r := Lib.hid (rowB R4_r.out hb)
  have B5 := Lib.hid (joins B4.out hb)
  have hHeld := grownB hHeld hb
  clear hb
  refine hK.out _ _ hHeld (fun hHeld => ?_)
  clear hK K
  (try simp only [Act.put, List.getElem_toArray, List.getElem_cons_zero, List.getElem_cons_succ, List.setIfInBounds_toArray, List.set_cons_zero, List.set_cons_succ])
  refine wpAnyH_ready (rs := [6]) (by kernel_rfl) (by simp) ?_
  refine AllReadyH.cons rfl (fun K hK => ?_) AllReadyH.nil
  go_simp
  refine (HB'.out _).mono ?_
  rintro e w6 ⟨rfl, hb⟩
  have R6_a := Lib.hid (rowB R5_a.out hb)
  have R6_b := Lib.hid (rowB R5_b.out hb)
  have R6_r := Lib.hid (rowB R5_r.out hb)
  have B6 := Lib.hid (joins B5.out hb)
  have hHeld := grownB hHeld hb
  clear hb
  refine hK.out _ _ hHeld (fun hHeld => ?_)
  clear hK K
  (try simp only [Act.put, List.getElem_toArray, List.getElem_cons_zero, List.getElem_cons_succ, List.setIfInBounds_toArray, List.set_cons_zero, List.set_cons_succ])
  refine' wpAnyH_take (i := 7) (v := _) rfl (by kernel_rfl) (by kernel_rfl) (by kernel_rfl) (fun _ _ _ h => h) (Or.inl ⟨by rfl, ?hy14⟩) (by assumption) ?rest14
  case hy14 =>
    intro w h
    (try clear h)
    go_simp
    (try with_reducible rfl)
  (try simp only [Act.put, List.getElem_toArray, List.getElem_cons_zero, List.getElem_cons_succ, List.setIfInBounds_toArray, List.set_cons_zero, List.set_cons_succ])
  refine' wpAnyH_take (i := 8) (v := _) rfl (by kernel_rfl) (by kernel_rfl) (by kernel_rfl) (fun _ _ _ h => h) (Or.inl ⟨by rfl, ?hy15⟩) (by assumption) ?rest15
  case hy15 =>
    intro w h
    (try clear h)
    go_simp
    (try with_reducible rfl)
  (try simp only [Act.put, List.getElem_toArray, List.getElem_cons_zero, List.getElem_cons_succ, List.setIfInBounds_toArray, List.set_cons_zero, List.set_cons_succ])
  refine wpAnyH_ready (rs := [9]) (by kernel_rfl) (by simp) ?_
  refine AllReadyH.cons rfl (fun K hK => ?_) AllReadyH.nil
  rw [if_pos (by rfl)]
  refine wp_put_row 45 (.tmp 6) (.tmp 15) rfl (w2.heap.size) C rfl rfl 45 Z R6_r.out 66 infoPr SC.out SZ.out OC.out w.heap.size w B6.out L3_r.out ?_
  intro w7 hr hs hb
  have R7_a := Lib.hid (hs.row R6_a.out N3_a_r.out)
  have R7_b := Lib.hid (hs.row R6_b.out N3_b_r.out)
  have R7_r := Lib.hid hr
  have B7 := Lib.hid hb
  have hHeld := grownS hHeld hs hb B6.out
  clear hr hs hb
  refine hK.out _ _ hHeld (fun hHeld => ?_)
  clear hK K
  (try simp only [Act.put])
  refine' wpAnyH_take (i := 10) (v := _) rfl (by kernel_rfl) (by kernel_rfl) (by kernel_rfl) (fun _ _ _ h => h) (Or.inl ⟨by rfl, ?hy16⟩) (by assumption) ?rest16
  case hy16 =>
    intro w h
    (try clear h)
    go_simp
    (try with_reducible rfl)
  (try simp only [Act.put, List.getElem_toArray, List.getElem_cons_zero, List.getElem_cons_succ, List.setIfInBounds_toArray, List.set_cons_zero, List.set_cons_succ])
  refine wpAnyH_done (by kernel_rfl) ?_ _
  go_wp2_with fail
  refine bodyPost_ret (v := .tuple #[.agg C, .bool o1]) ?_ rfl ⟨rfl, B7.out⟩
  rw [results_cell_tmp (p := 6) (u := 7) (ty := 45) Try.results47]
  simp [asAddr, run_loadVar_row _ (w2.heap.size) 45 45 _ (0, 0) _ R7_r.out Try.underlying45 rfl IC.out, Result.andThen]
end Go.Proofs.Ytcpeikkkegpdhab
