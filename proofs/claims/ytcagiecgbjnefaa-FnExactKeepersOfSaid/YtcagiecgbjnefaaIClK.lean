/- The program's bothRanked, MoveBetween, KeepersOf. -/
import Derived.Test.YtcagiecgbjnefaaIClM
namespace Go.Proofs.Ytcagiecgbjnefaa
set_option maxRecDepth 100000
open Go.RowKit

theorem results_two_cells {P : Program} {fn : Func} {p q u : Tmp} {ty : TypeId} (h : fn.results = #[.cell p ty, .cell q ty, .tmp u]) (tmps : Array Value) (w : World) (g g2 : Nat) (t : TypeId) (cs cs2 : Array Value) (fr fr2 : Nat × Nat) (d : TypeDesc)
    (hp : tmps.getD p undef = .pointer (some ⟨g, 0, none⟩)) (hq : tmps.getD q undef = .pointer (some ⟨g2, 0, none⟩)) (hg : w.heap[g]? = some (.cells cs t fr)) (hg2 : w.heap[g2]? = some (.cells cs2 t fr2))
    (hu : P.underlying ty = some d) (hd : (match d with | .struct _ | .array _ _ => true | _ => false) = true) (hi : (P.info? ty).map (·.size) = some cs.size) (hi2 : (P.info? ty).map (·.size) = some cs2.size) :
    (results fn tmps).run P w = .ok (.tuple #[.agg cs, .agg cs2, tmps.getD u undef]) w := by
  have hp' : tmps[p]?.getD undef = .pointer (some ⟨g, 0, none⟩) := by simpa using hp
  have hq' : tmps[q]?.getD undef = .pointer (some ⟨g2, 0, none⟩) := by simpa using hq
  simp [results, h, hp', hq', asAddr, run_loadVar_row w g t ty cs fr d hg hu hd hi, run_loadVar_row w g2 t ty cs2 fr2 d hg2 hu hd hi2]

set_option maxRecDepth 100000 in
set_option maxHeartbeats 4000000 in
theorem bothRanked_any (v vt : Value) (l t : List Int) (w : World) (hv : IS w v l) (hvt : IS w vt t) (hl : l.length ≤ 1048576) (ht : t.length ≤ 1048576) :
    Calls Try.prog 46 #[v, vt] w (Ret w (.tuple #[.agg (phC (rkz l)), .agg (phC (rkz t)), .bool (bothR l t)])) := by
  have HR := Lib.hid (fun w' (h : Below w.heap.size w w') => rankedOf_any v l w' (hv.below h) hl)
  have HT := Lib.hid (fun w' (h : Below w.heap.size w w') => rankedOf_any vt t w' (hvt.below h) ht)
  have ZZ := Lib.hid zeroPh
  have SZ := Lib.hid (phA_size z32 0 z32_length)
  obtain ⟨Z, hZ⟩ : ∃ Z, Z = phA z32 0 := ⟨_, rfl⟩
  rw [← hZ] at ZZ SZ
  have S0 := Lib.hid (phC_size (rkz l))
  have O0 := Lib.hid (phC_one (rkz l))
  have I0 := Lib.hid (phC_info (rkz l))
  have S1 := Lib.hid (phC_size (rkz t))
  have O1 := Lib.hid (phC_one (rkz t))
  have I1 := Lib.hid (phC_info (rkz t))
  obtain ⟨C0, h0⟩ : ∃ C, C = phC (rkz l) := ⟨_, rfl⟩
  rw [← h0] at S0 O0 I0 HR ⊢
  obtain ⟨C1, h1⟩ : ∃ C, C = phC (rkz t) := ⟨_, rfl⟩
  rw [← h1] at S1 O1 I1 HT ⊢
  unfold bothR
  obtain ⟨r, hr⟩ : ∃ r, r = ranked l := ⟨_, rfl⟩
  obtain ⟨q, hq⟩ : ∃ r, r = ranked t := ⟨_, rfl⟩
  rw [← hr] at HR ⊢
  rw [← hq] at HT ⊢
  clear hZ h0 h1 hr hq hv hvt hl ht
  cases r
  · have B0 := Lib.hid (Below.refl w.heap.size w)
    go_enter Try.func46, Try.ntmps46
    go_wp2_with (first
      | ((with_reducible refine at_op (d := some 4) (Op.alloc 50) ?_); refine wpList_alloc_row rfl 50 rfl Z ZZ.out ?_; intro w1 hr hb hz; have R1_r1 := Lib.hid hr; have B1 := Lib.hid (joins B0.out hb); have L1_r1 := Lib.hid (show w.heap.size ≤ w.heap.size from B0.out.size); clear hr hb hz)
      | ((with_reducible refine at_op (d := some 5) (Op.alloc 50) ?_); refine wpList_alloc_row rfl 50 rfl Z ZZ.out ?_; intro w2 hr hb hz; have N2_r1_r2 := Lib.hid (Nat.ne_of_lt (row_lt R1_r1.out)); have N2_r2_r1 := Lib.hid (Ne.symm N2_r1_r2.out); have R2_r1 := Lib.hid (rowB R1_r1.out hb); have R2_r2 := Lib.hid hr; have B2 := Lib.hid (joins B1.out hb); have L2_r2 := Lib.hid (show w.heap.size ≤ w1.heap.size from B1.out.size); clear hr hb hz))
    refine (HR.out _ B2.out).mono ?_
    rintro e w3 ⟨rfl, hb⟩
    have R3_r1 := Lib.hid (rowB R2_r1.out hb)
    have R3_r2 := Lib.hid (rowB R2_r2.out hb)
    have B3 := Lib.hid (joins B2.out hb)
    clear hb
    go_wp2_with (first
      | ((with_reducible refine at_op (d := some 7) (Op.alloc 50) ?_); refine wpList_alloc_row rfl 50 rfl Z ZZ.out ?_; intro w4 hr hb hz; have N4_r1_p := Lib.hid (Nat.ne_of_lt (row_lt R3_r1.out)); have N4_p_r1 := Lib.hid (Ne.symm N4_r1_p.out); have N4_r2_p := Lib.hid (Nat.ne_of_lt (row_lt R3_r2.out)); have N4_p_r2 := Lib.hid (Ne.symm N4_r2_p.out); have R4_r1 := Lib.hid (rowB R3_r1.out hb); have R4_r2 := Lib.hid (rowB R3_r2.out hb); have R4_p := Lib.hid hr; have B4 := Lib.hid (joins B3.out hb); have L4_p := Lib.hid (show w.heap.size ≤ w3.heap.size from B3.out.size); clear hr hb hz)
      | ((with_reducible refine at_op (Op.store 50 (.tmp 7) (.tmp 14)) ?_); refine wpList_put_row rfl 50 (.tmp 7) (.tmp 14) rfl (w3.heap.size) C0 rfl rfl 50 Z R4_p.out 33 infoPh S0.out SZ.out O0.out w.heap.size w B4.out L4_p.out ?_; intro w5 hr hs hb; have R5_r1 := Lib.hid (hs.row R4_r1.out N4_r1_p.out); have R5_r2 := Lib.hid (hs.row R4_r2.out N4_r2_p.out); have R5_p := Lib.hid hr; have B5 := Lib.hid hb; clear hr hs hb))
    refine (HT.out _ B5.out).mono ?_
    rintro e w6 ⟨rfl, hb⟩
    have R6_r1 := Lib.hid (rowB R5_r1.out hb)
    have R6_r2 := Lib.hid (rowB R5_r2.out hb)
    have R6_p := Lib.hid (rowB R5_p.out hb)
    have B6 := Lib.hid (joins B5.out hb)
    clear hb
    go_wp2_with (first
      | ((with_reducible refine at_op (d := some 9) (Op.alloc 50) ?_); refine wpList_alloc_row rfl 50 rfl Z ZZ.out ?_; intro w7 hr hb hz; have N7_r1_q := Lib.hid (Nat.ne_of_lt (row_lt R6_r1.out)); have N7_q_r1 := Lib.hid (Ne.symm N7_r1_q.out); have N7_r2_q := Lib.hid (Nat.ne_of_lt (row_lt R6_r2.out)); have N7_q_r2 := Lib.hid (Ne.symm N7_r2_q.out); have N7_p_q := Lib.hid (Nat.ne_of_lt (row_lt R6_p.out)); have N7_q_p := Lib.hid (Ne.symm N7_p_q.out); have R7_r1 := Lib.hid (rowB R6_r1.out hb); have R7_r2 := Lib.hid (rowB R6_r2.out hb); have R7_p := Lib.hid (rowB R6_p.out hb); have R7_q := Lib.hid hr; have B7 := Lib.hid (joins B6.out hb); have L7_q := Lib.hid (show w.heap.size ≤ w6.heap.size from B6.out.size); clear hr hb hz)
      | ((with_reducible refine at_op (Op.store 50 (.tmp 9) (.tmp 19)) ?_); refine wpList_put_row rfl 50 (.tmp 9) (.tmp 19) rfl (w6.heap.size) C1 rfl rfl 50 Z R7_q.out 33 infoPh S1.out SZ.out O1.out w.heap.size w B7.out L7_q.out ?_; intro w8 hr hs hb; have R8_r1 := Lib.hid (hs.row R7_r1.out N7_r1_q.out); have R8_r2 := Lib.hid (hs.row R7_r2.out N7_r2_q.out); have R8_p := Lib.hid (hs.row R7_p.out N7_p_q.out); have R8_q := Lib.hid hr; have B8 := Lib.hid hb; clear hr hs hb))
    go_wp2_with fail
    refine wp_region_held_drew (S := (fun w' => w'.heap[w3.heap.size]? = some (.cells C0 50 (0, 0)) ∧ w'.heap[w6.heap.size]? = some (.cells C1 50 (0, 0)))) (by kernel_rfl) ⟨R8_p.out, R8_q.out⟩ ?_
    obtain ⟨w9, hdw⟩ : ∃ w', w' = w8.drew := ⟨_, rfl⟩
    rw [← hdw]
    have hb : Below w8.heap.size w8 w9 := by rw [hdw]; exact belowN (Below.refl _ _) 1
    have R9_r1 := Lib.hid (rowB R8_r1.out hb)
    have R9_r2 := Lib.hid (rowB R8_r2.out hb)
    have R9_p := Lib.hid (rowB R8_p.out hb)
    have R9_q := Lib.hid (rowB R8_q.out hb)
    have B9 := Lib.hid (joins B8.out hb)
    clear hdw hb
    intro hHeld
    refine' wpAnyH_take (i := 0) (v := _) rfl (by kernel_rfl) (by kernel_rfl) (by kernel_rfl) (fun _ _ _ h => h) (yieldsPart (by rfl) 50 (.tmp 7) rfl (w3.heap.size) 0 rfl C0 C0 50 (0, 0) _ (fun w h => h.1) (Part.self _) Try.underlying50 rfl I0.out) (by assumption) ?rest1
    (try simp only [Act.put, List.getElem_toArray, List.getElem_cons_zero, List.setIfInBounds_toArray, List.set_cons_zero, List.set_cons_succ])
    refine' wpAnyH_take (i := 1) (v := _) rfl (by kernel_rfl) (by kernel_rfl) (by kernel_rfl) (fun _ _ _ h => h) (yieldsPart (by rfl) 50 (.tmp 9) rfl (w6.heap.size) 0 rfl C1 C1 50 (0, 0) _ (fun w h => h.2) (Part.self _) Try.underlying50 rfl I1.out) (by assumption) ?rest2
    (try simp only [Act.put, List.getElem_toArray, List.getElem_cons_zero, List.getElem_cons_succ, List.setIfInBounds_toArray, List.set_cons_zero, List.set_cons_succ])
    refine' wpAnyH_take (i := 2) (v := _) rfl (by kernel_rfl) (by kernel_rfl) (by kernel_rfl) (fun _ _ _ h => h) (Or.inl ⟨by rfl, ?hy3⟩) (by assumption) ?rest3
    case hy3 =>
      intro w h
      (try clear h)
      go_simp
      (try with_reducible rfl)
    (try simp only [Act.put, List.getElem_toArray, List.getElem_cons_zero, List.getElem_cons_succ, List.setIfInBounds_toArray, List.set_cons_zero, List.set_cons_succ])
    refine' wpAnyH_take (i := 3) (v := _) rfl (by kernel_rfl) (by kernel_rfl) (by kernel_rfl) (fun _ _ _ h => h) (Or.inl ⟨by rfl, ?hy4⟩) (by assumption) ?rest4
    case hy4 =>
      intro w h
      (try clear h)
      go_simp
      (try with_reducible rfl)
    (try simp only [Act.put, List.getElem_toArray, List.getElem_cons_zero, List.getElem_cons_succ, List.setIfInBounds_toArray, List.set_cons_zero, List.set_cons_succ])
    refine' wpAnyH_take (i := 4) (v := _) rfl (by kernel_rfl) (by kernel_rfl) (by kernel_rfl) (fun _ _ _ h => h) (Or.inr ⟨by rfl, rfl⟩) (by assumption) ?rest5
    (try simp only [Act.put, List.getElem_toArray, List.getElem_cons_zero, List.getElem_cons_succ, List.setIfInBounds_toArray, List.set_cons_zero, List.set_cons_succ])
    refine' wpAnyH_take (i := 5) (v := _) rfl (by kernel_rfl) (by kernel_rfl) (by kernel_rfl) (fun _ _ _ h => h) (Or.inl ⟨by rfl, ?hy6⟩) (by assumption) ?rest6
    case hy6 =>
      intro w h
      (try clear h)
      go_simp
      (try with_reducible rfl)
    (try simp only [Act.put, List.getElem_toArray, List.getElem_cons_zero, List.getElem_cons_succ, List.setIfInBounds_toArray, List.set_cons_zero, List.set_cons_succ])
    refine wpAnyH_ready (rs := [6]) (by kernel_rfl) (by simp) ?_
    refine AllReadyH.cons rfl (fun K hK => ?_) AllReadyH.nil
    rw [if_pos (by rfl)]
    refine wp_put_row 50 (.tmp 4) (.tmp 21) rfl (w.heap.size) C0 rfl rfl 50 Z R9_r1.out 33 infoPh S0.out SZ.out O0.out w.heap.size w B9.out L1_r1.out ?_
    intro w10 hr hs hb
    have R10_r2 := Lib.hid (hs.row R9_r2.out N2_r2_r1.out)
    have R10_p := Lib.hid (hs.row R9_p.out N4_p_r1.out)
    have R10_q := Lib.hid (hs.row R9_q.out N7_q_r1.out)
    have R10_r1 := Lib.hid hr
    have B10 := Lib.hid hb
    have hHeld := (show _ ∧ _ from ⟨hs.row hHeld.1 N4_p_r1.out, hs.row hHeld.2 N7_q_r1.out⟩)
    clear hr hs hb
    refine hK.out _ _ hHeld (fun hHeld => ?_)
    clear hK K
    (try simp only [Act.put])
    refine wpAnyH_ready (rs := [7]) (by kernel_rfl) (by simp) ?_
    refine AllReadyH.cons rfl (fun K hK => ?_) AllReadyH.nil
    rw [if_pos (by rfl)]
    refine wp_put_row 50 (.tmp 5) (.tmp 22) rfl (w1.heap.size) C1 rfl rfl 50 Z R10_r2.out 33 infoPh S1.out SZ.out O1.out w.heap.size w B10.out L2_r2.out ?_
    intro w11 hr hs hb
    have R11_r1 := Lib.hid (hs.row R10_r1.out N2_r1_r2.out)
    have R11_p := Lib.hid (hs.row R10_p.out N4_p_r2.out)
    have R11_q := Lib.hid (hs.row R10_q.out N7_q_r2.out)
    have R11_r2 := Lib.hid hr
    have B11 := Lib.hid hb
    have hHeld := (show _ ∧ _ from ⟨hs.row hHeld.1 N4_p_r2.out, hs.row hHeld.2 N7_q_r2.out⟩)
    clear hr hs hb
    refine hK.out _ _ hHeld (fun hHeld => ?_)
    clear hK K
    (try simp only [Act.put])
    refine' wpAnyH_take (i := 8) (v := _) rfl (by kernel_rfl) (by kernel_rfl) (by kernel_rfl) (fun _ _ _ h => h) (Or.inl ⟨by rfl, ?hy7⟩) (by assumption) ?rest7
    case hy7 =>
      intro w h
      (try clear h)
      go_simp
      (try with_reducible rfl)
    (try simp only [Act.put, List.getElem_toArray, List.getElem_cons_zero, List.getElem_cons_succ, List.setIfInBounds_toArray, List.set_cons_zero, List.set_cons_succ])
    refine wpAnyH_done (by kernel_rfl) ?_ _
    go_wp2_with fail
    refine bodyPost_ret (v := .tuple #[.agg C0, .agg C1, .bool (false && q)]) ?_ rfl ⟨rfl, B11.out⟩
    exact results_two_cells Try.results46 _ _ (w.heap.size) (w1.heap.size) 50 C0 C1 (0, 0) (0, 0) _ rfl rfl R11_r1.out R11_r2.out Try.underlying50 rfl I0.out I1.out
  · have B0 := Lib.hid (Below.refl w.heap.size w)
    go_enter Try.func46, Try.ntmps46
    go_wp2_with (first
      | ((with_reducible refine at_op (d := some 4) (Op.alloc 50) ?_); refine wpList_alloc_row rfl 50 rfl Z ZZ.out ?_; intro w1 hr hb hz; have R1_r1 := Lib.hid hr; have B1 := Lib.hid (joins B0.out hb); have L1_r1 := Lib.hid (show w.heap.size ≤ w.heap.size from B0.out.size); clear hr hb hz)
      | ((with_reducible refine at_op (d := some 5) (Op.alloc 50) ?_); refine wpList_alloc_row rfl 50 rfl Z ZZ.out ?_; intro w2 hr hb hz; have N2_r1_r2 := Lib.hid (Nat.ne_of_lt (row_lt R1_r1.out)); have N2_r2_r1 := Lib.hid (Ne.symm N2_r1_r2.out); have R2_r1 := Lib.hid (rowB R1_r1.out hb); have R2_r2 := Lib.hid hr; have B2 := Lib.hid (joins B1.out hb); have L2_r2 := Lib.hid (show w.heap.size ≤ w1.heap.size from B1.out.size); clear hr hb hz))
    refine (HR.out _ B2.out).mono ?_
    rintro e w3 ⟨rfl, hb⟩
    have R3_r1 := Lib.hid (rowB R2_r1.out hb)
    have R3_r2 := Lib.hid (rowB R2_r2.out hb)
    have B3 := Lib.hid (joins B2.out hb)
    clear hb
    go_wp2_with (first
      | ((with_reducible refine at_op (d := some 7) (Op.alloc 50) ?_); refine wpList_alloc_row rfl 50 rfl Z ZZ.out ?_; intro w4 hr hb hz; have N4_r1_p := Lib.hid (Nat.ne_of_lt (row_lt R3_r1.out)); have N4_p_r1 := Lib.hid (Ne.symm N4_r1_p.out); have N4_r2_p := Lib.hid (Nat.ne_of_lt (row_lt R3_r2.out)); have N4_p_r2 := Lib.hid (Ne.symm N4_r2_p.out); have R4_r1 := Lib.hid (rowB R3_r1.out hb); have R4_r2 := Lib.hid (rowB R3_r2.out hb); have R4_p := Lib.hid hr; have B4 := Lib.hid (joins B3.out hb); have L4_p := Lib.hid (show w.heap.size ≤ w3.heap.size from B3.out.size); clear hr hb hz)
      | ((with_reducible refine at_op (Op.store 50 (.tmp 7) (.tmp 14)) ?_); refine wpList_put_row rfl 50 (.tmp 7) (.tmp 14) rfl (w3.heap.size) C0 rfl rfl 50 Z R4_p.out 33 infoPh S0.out SZ.out O0.out w.heap.size w B4.out L4_p.out ?_; intro w5 hr hs hb; have R5_r1 := Lib.hid (hs.row R4_r1.out N4_r1_p.out); have R5_r2 := Lib.hid (hs.row R4_r2.out N4_r2_p.out); have R5_p := Lib.hid hr; have B5 := Lib.hid hb; clear hr hs hb))
    refine (HT.out _ B5.out).mono ?_
    rintro e w6 ⟨rfl, hb⟩
    have R6_r1 := Lib.hid (rowB R5_r1.out hb)
    have R6_r2 := Lib.hid (rowB R5_r2.out hb)
    have R6_p := Lib.hid (rowB R5_p.out hb)
    have B6 := Lib.hid (joins B5.out hb)
    clear hb
    go_wp2_with (first
      | ((with_reducible refine at_op (d := some 9) (Op.alloc 50) ?_); refine wpList_alloc_row rfl 50 rfl Z ZZ.out ?_; intro w7 hr hb hz; have N7_r1_q := Lib.hid (Nat.ne_of_lt (row_lt R6_r1.out)); have N7_q_r1 := Lib.hid (Ne.symm N7_r1_q.out); have N7_r2_q := Lib.hid (Nat.ne_of_lt (row_lt R6_r2.out)); have N7_q_r2 := Lib.hid (Ne.symm N7_r2_q.out); have N7_p_q := Lib.hid (Nat.ne_of_lt (row_lt R6_p.out)); have N7_q_p := Lib.hid (Ne.symm N7_p_q.out); have R7_r1 := Lib.hid (rowB R6_r1.out hb); have R7_r2 := Lib.hid (rowB R6_r2.out hb); have R7_p := Lib.hid (rowB R6_p.out hb); have R7_q := Lib.hid hr; have B7 := Lib.hid (joins B6.out hb); have L7_q := Lib.hid (show w.heap.size ≤ w6.heap.size from B6.out.size); clear hr hb hz)
      | ((with_reducible refine at_op (Op.store 50 (.tmp 9) (.tmp 19)) ?_); refine wpList_put_row rfl 50 (.tmp 9) (.tmp 19) rfl (w6.heap.size) C1 rfl rfl 50 Z R7_q.out 33 infoPh S1.out SZ.out O1.out w.heap.size w B7.out L7_q.out ?_; intro w8 hr hs hb; have R8_r1 := Lib.hid (hs.row R7_r1.out N7_r1_q.out); have R8_r2 := Lib.hid (hs.row R7_r2.out N7_r2_q.out); have R8_p := Lib.hid (hs.row R7_p.out N7_p_q.out); have R8_q := Lib.hid hr; have B8 := Lib.hid hb; clear hr hs hb))
    go_wp2_with fail
    refine wp_region_held_drew (S := (fun w' => w'.heap[w3.heap.size]? = some (.cells C0 50 (0, 0)) ∧ w'.heap[w6.heap.size]? = some (.cells C1 50 (0, 0)))) (by kernel_rfl) ⟨R8_p.out, R8_q.out⟩ ?_
    obtain ⟨w9, hdw⟩ : ∃ w', w' = w8.drew := ⟨_, rfl⟩
    rw [← hdw]
    have hb : Below w8.heap.size w8 w9 := by rw [hdw]; exact belowN (Below.refl _ _) 1
    have R9_r1 := Lib.hid (rowB R8_r1.out hb)
    have R9_r2 := Lib.hid (rowB R8_r2.out hb)
    have R9_p := Lib.hid (rowB R8_p.out hb)
    have R9_q := Lib.hid (rowB R8_q.out hb)
    have B9 := Lib.hid (joins B8.out hb)
    clear hdw hb
    intro hHeld
    refine' wpAnyH_take (i := 0) (v := _) rfl (by kernel_rfl) (by kernel_rfl) (by kernel_rfl) (fun _ _ _ h => h) (yieldsPart (by rfl) 50 (.tmp 7) rfl (w3.heap.size) 0 rfl C0 C0 50 (0, 0) _ (fun w h => h.1) (Part.self _) Try.underlying50 rfl I0.out) (by assumption) ?rest8
    (try simp only [Act.put, List.getElem_toArray, List.getElem_cons_zero, List.setIfInBounds_toArray, List.set_cons_zero, List.set_cons_succ])
    refine' wpAnyH_take (i := 1) (v := _) rfl (by kernel_rfl) (by kernel_rfl) (by kernel_rfl) (fun _ _ _ h => h) (yieldsPart (by rfl) 50 (.tmp 9) rfl (w6.heap.size) 0 rfl C1 C1 50 (0, 0) _ (fun w h => h.2) (Part.self _) Try.underlying50 rfl I1.out) (by assumption) ?rest9
    (try simp only [Act.put, List.getElem_toArray, List.getElem_cons_zero, List.getElem_cons_succ, List.setIfInBounds_toArray, List.set_cons_zero, List.set_cons_succ])
    refine' wpAnyH_take (i := 2) (v := _) rfl (by kernel_rfl) (by kernel_rfl) (by kernel_rfl) (fun _ _ _ h => h) (Or.inl ⟨by rfl, ?hy10⟩) (by assumption) ?rest10
    case hy10 =>
      intro w h
      (try clear h)
      go_simp
      (try with_reducible rfl)
    (try simp only [Act.put, List.getElem_toArray, List.getElem_cons_zero, List.getElem_cons_succ, List.setIfInBounds_toArray, List.set_cons_zero, List.set_cons_succ])
    refine' wpAnyH_take (i := 3) (v := _) rfl (by kernel_rfl) (by kernel_rfl) (by kernel_rfl) (fun _ _ _ h => h) (Or.inl ⟨by rfl, ?hy11⟩) (by assumption) ?rest11
    case hy11 =>
      intro w h
      (try clear h)
      go_simp
      (try with_reducible rfl)
    (try simp only [Act.put, List.getElem_toArray, List.getElem_cons_zero, List.getElem_cons_succ, List.setIfInBounds_toArray, List.set_cons_zero, List.set_cons_succ])
    refine' wpAnyH_take (i := 4) (v := _) rfl (by kernel_rfl) (by kernel_rfl) (by kernel_rfl) (fun _ _ _ h => h) (Or.inl ⟨by rfl, ?hy12⟩) (by assumption) ?rest12
    case hy12 =>
      intro w h
      (try clear h)
      go_simp
      (try with_reducible rfl)
    (try simp only [Act.put, List.getElem_toArray, List.getElem_cons_zero, List.getElem_cons_succ, List.setIfInBounds_toArray, List.set_cons_zero, List.set_cons_succ])
    refine' wpAnyH_take (i := 5) (v := _) rfl (by kernel_rfl) (by kernel_rfl) (by kernel_rfl) (fun _ _ _ h => h) (Or.inl ⟨by rfl, ?hy13⟩) (by assumption) ?rest13
    case hy13 =>
      intro w h
      (try clear h)
      go_simp
      (try with_reducible rfl)
    (try simp only [Act.put, List.getElem_toArray, List.getElem_cons_zero, List.getElem_cons_succ, List.setIfInBounds_toArray, List.set_cons_zero, List.set_cons_succ])
    refine wpAnyH_ready (rs := [6]) (by kernel_rfl) (by simp) ?_
    refine AllReadyH.cons rfl (fun K hK => ?_) AllReadyH.nil
    rw [if_pos (by rfl)]
    refine wp_put_row 50 (.tmp 4) (.tmp 21) rfl (w.heap.size) C0 rfl rfl 50 Z R9_r1.out 33 infoPh S0.out SZ.out O0.out w.heap.size w B9.out L1_r1.out ?_
    intro w10 hr hs hb
    have R10_r2 := Lib.hid (hs.row R9_r2.out N2_r2_r1.out)
    have R10_p := Lib.hid (hs.row R9_p.out N4_p_r1.out)
    have R10_q := Lib.hid (hs.row R9_q.out N7_q_r1.out)
    have R10_r1 := Lib.hid hr
    have B10 := Lib.hid hb
    have hHeld := (show _ ∧ _ from ⟨hs.row hHeld.1 N4_p_r1.out, hs.row hHeld.2 N7_q_r1.out⟩)
    clear hr hs hb
    refine hK.out _ _ hHeld (fun hHeld => ?_)
    clear hK K
    (try simp only [Act.put])
    refine wpAnyH_ready (rs := [7]) (by kernel_rfl) (by simp) ?_
    refine AllReadyH.cons rfl (fun K hK => ?_) AllReadyH.nil
    rw [if_pos (by rfl)]
    refine wp_put_row 50 (.tmp 5) (.tmp 22) rfl (w1.heap.size) C1 rfl rfl 50 Z R10_r2.out 33 infoPh S1.out SZ.out O1.out w.heap.size w B10.out L2_r2.out ?_
    intro w11 hr hs hb
    have R11_r1 := Lib.hid (hs.row R10_r1.out N2_r1_r2.out)
    have R11_p := Lib.hid (hs.row R10_p.out N4_p_r2.out)
    have R11_q := Lib.hid (hs.row R10_q.out N7_q_r2.out)
    have R11_r2 := Lib.hid hr
    have B11 := Lib.hid hb
    have hHeld := (show _ ∧ _ from ⟨hs.row hHeld.1 N4_p_r2.out, hs.row hHeld.2 N7_q_r2.out⟩)
    clear hr hs hb
    refine hK.out _ _ hHeld (fun hHeld => ?_)
    clear hK K
    (try simp only [Act.put])
    refine' wpAnyH_take (i := 8) (v := _) rfl (by kernel_rfl) (by kernel_rfl) (by kernel_rfl) (fun _ _ _ h => h) (Or.inl ⟨by rfl, ?hy14⟩) (by assumption) ?rest14
    case hy14 =>
      intro w h
      (try clear h)
      go_simp
      (try with_reducible rfl)
    (try simp only [Act.put, List.getElem_toArray, List.getElem_cons_zero, List.getElem_cons_succ, List.setIfInBounds_toArray, List.set_cons_zero, List.set_cons_succ])
    refine wpAnyH_done (by kernel_rfl) ?_ _
    go_wp2_with fail
    refine bodyPost_ret (v := .tuple #[.agg C0, .agg C1, .bool (true && q)]) ?_ rfl ⟨rfl, B11.out⟩
    exact results_two_cells Try.results46 _ _ (w.heap.size) (w1.heap.size) 50 C0 C1 (0, 0) (0, 0) _ rfl rfl R11_r1.out R11_r2.out Try.underlying50 rfl I0.out I1.out

theorem load_move {ops : Array Oper} {rest : List Oper} {op : Oper} {a : Act} {w : World} {Q : Exit → Act → World → Prop} (hgd : op.guard = none) (x : Operand) (ho : op.op = .load 44 x)
    (g o : Nat) (hx : a.eval x = .pointer (some ⟨g, o, none⟩)) (p q r s : Int) (hc : w.rangeAt g o [.int .i64 p, .int .i64 q, .int .i64 r, .int .i64 s])
    (h : wpList Try.prog ops Q rest (a.put op.dst (.agg #[.int .i64 p, .int .i64 q, .int .i64 r, .int .i64 s])) w) : wpList Try.prog ops Q (op :: rest) a w :=
  wpList_load_mid hgd 44 x ho g o hx [.int .i64 p, .int .i64 q, .int .i64 r, .int .i64 s] _ hc Try.underlying44 rfl infoMv h
theorem range_below {w w' : World} {g o : Nat} {cs : List Value} (h : w.rangeAt g o cs) (hb : Below w.heap.size w w') : w'.rangeAt g o cs := fun j u hj => keepc hb (h j u hj)
set_option maxRecDepth 100000 in
set_option maxHeartbeats 4000000 in
theorem iMoveBetween (v vt : Value) (l t : List Int) (w : World) (hv : IS w v l) (hvt : IS w vt t) (hl : l.length ≤ 1048576) (ht : t.length ≤ 1048576) :
    Calls Try.prog 21 #[v, vt] w (MakesB w (mbF l t) (mbOk l t)) := by
  have HB_ := Lib.hid (fun w' (h : Below w.heap.size w w') => bothRanked_any v vt l t w' (hv.below h) (hvt.below h) hl ht)
  have ZZ := Lib.hid zeroPh
  have SZ := Lib.hid (phA_size z32 0 z32_length)
  obtain ⟨Z, hZ⟩ : ∃ Z, Z = phA z32 0 := ⟨_, rfl⟩
  rw [← hZ] at ZZ SZ
  have S0 := Lib.hid (phC_size (rkz l))
  have O0 := Lib.hid (phC_one (rkz l))
  have I0 := Lib.hid (phC_info (rkz l))
  have S1 := Lib.hid (phC_size (rkz t))
  have O1 := Lib.hid (phC_one (rkz t))
  have I1 := Lib.hid (phC_info (rkz t))
  have HMB := Lib.hid (fun (h : bothR l t = true) w => show Calls Try.prog 47 #[.agg (phC (rkz l)), .agg (phC (rkz t))] w (MakesM w (mbX l t 64)) from by
    obtain ⟨h1, h2⟩ := Bool.and_eq_true_iff.1 h
    rw [rkz_yes h1, rkz_yes h2]
    exact movesBetween_any l t (ranked_seq h1).1 (ranked_seq h2).1 w)
  obtain ⟨C0, h0⟩ : ∃ C, C = phC (rkz l) := ⟨_, rfl⟩
  rw [← h0] at S0 O0 I0 HB_ HMB
  obtain ⟨C1, h1⟩ : ∃ C, C = phC (rkz t) := ⟨_, rfl⟩
  rw [← h1] at S1 O1 I1 HB_ HMB
  unfold mbF mbOk
  obtain ⟨X, hX⟩ : ∃ X, X = mbX l t 64 := ⟨_, rfl⟩
  rw [← hX] at HMB ⊢
  obtain ⟨r, hr⟩ : ∃ r, r = bothR l t := ⟨_, rfl⟩
  rw [← hr] at HB_ HMB ⊢
  clear hZ h0 h1 hr hX hv hvt hl ht
  cases r
  · have B0 := Lib.hid (Below.refl w.heap.size w)
    go_enter Try.func21, Try.ntmps21
    go_wp2_with fail
    refine (HB_.out _ B0.out).mono ?_
    rintro e w1 ⟨rfl, hb⟩
    have B1 := Lib.hid (joins B0.out hb)
    clear hb
    go_wp2_with (first
      | ((with_reducible refine at_op (d := some 6) (Op.alloc 50) ?_); refine wpList_alloc_row rfl 50 rfl Z ZZ.out ?_; intro w2 hr hb hz; have R2_p := Lib.hid hr; have L2_p := Lib.hid (show w1.heap.size ≤ w1.heap.size from Nat.le_refl _); have D2 := Lib.hid (hb); clear hr hb hz)
      | ((with_reducible refine at_op (d := some 7) (Op.alloc 50) ?_); refine wpList_alloc_row rfl 50 rfl Z ZZ.out ?_; intro w3 hr hb hz; have N3_p := Lib.hid (Nat.ne_of_lt (row_lt R2_p.out)); have M3_p := Lib.hid (Ne.symm N3_p.out); have R3_p := Lib.hid (rowB R2_p.out hb); have R3_q := Lib.hid hr; have L3_q := Lib.hid (show w1.heap.size ≤ w2.heap.size from D2.out.size); have D3 := Lib.hid (joins D2.out hb); clear hr hb hz)
      | ((with_reducible refine at_op (Op.store 50 (.tmp 6) (.tmp 14)) ?_); refine wpList_put_row rfl 50 (.tmp 6) (.tmp 14) rfl (w1.heap.size) C0 rfl rfl 50 Z R3_p.out 33 infoPh S0.out SZ.out O0.out w1.heap.size w1 D3.out L2_p.out ?_; intro w4 hr hs hb; have R4_q := Lib.hid (hs.row R3_q.out M3_p.out); have R4_p := Lib.hid hr; have D4 := Lib.hid hb; clear hr hs hb)
      | ((with_reducible refine at_op (Op.store 50 (.tmp 7) (.tmp 15)) ?_); refine wpList_put_row rfl 50 (.tmp 7) (.tmp 15) rfl (w2.heap.size) C1 rfl rfl 50 Z R4_q.out 33 infoPh S1.out SZ.out O1.out w1.heap.size w1 D4.out L3_q.out ?_; intro w5 hr hs hb; have R5_p := Lib.hid (hs.row R4_p.out N3_p.out); have R5_q := Lib.hid hr; have B5 := Lib.hid (joins B1.out hb); have L5_p := Lib.hid (Nat.le_trans B1.out.size L2_p.out); have L5_q := Lib.hid (Nat.le_trans B1.out.size L3_q.out); clear hr hs hb))
    go_returns
    exact ⟨_, rfl, World.ownsRow_nil _ _ _ _, B5.out⟩
  · cases X with
    | nil =>
      show Calls _ _ _ _ (MakesB w [] false)
      have B0 := Lib.hid (Below.refl w.heap.size w)
      go_enter Try.func21, Try.ntmps21
      go_wp2_with fail
      refine (HB_.out _ B0.out).mono ?_
      rintro e w1 ⟨rfl, hb⟩
      have B1 := Lib.hid (joins B0.out hb)
      clear hb
      go_wp2_with (first
        | ((with_reducible refine at_op (d := some 6) (Op.alloc 50) ?_); refine wpList_alloc_row rfl 50 rfl Z ZZ.out ?_; intro w2 hr hb hz; have R2_p := Lib.hid hr; have L2_p := Lib.hid (show w1.heap.size ≤ w1.heap.size from Nat.le_refl _); have D2 := Lib.hid (hb); clear hr hb hz)
        | ((with_reducible refine at_op (d := some 7) (Op.alloc 50) ?_); refine wpList_alloc_row rfl 50 rfl Z ZZ.out ?_; intro w3 hr hb hz; have N3_p := Lib.hid (Nat.ne_of_lt (row_lt R2_p.out)); have M3_p := Lib.hid (Ne.symm N3_p.out); have R3_p := Lib.hid (rowB R2_p.out hb); have R3_q := Lib.hid hr; have L3_q := Lib.hid (show w1.heap.size ≤ w2.heap.size from D2.out.size); have D3 := Lib.hid (joins D2.out hb); clear hr hb hz)
        | ((with_reducible refine at_op (Op.store 50 (.tmp 6) (.tmp 14)) ?_); refine wpList_put_row rfl 50 (.tmp 6) (.tmp 14) rfl (w1.heap.size) C0 rfl rfl 50 Z R3_p.out 33 infoPh S0.out SZ.out O0.out w1.heap.size w1 D3.out L2_p.out ?_; intro w4 hr hs hb; have R4_q := Lib.hid (hs.row R3_q.out M3_p.out); have R4_p := Lib.hid hr; have D4 := Lib.hid hb; clear hr hs hb)
        | ((with_reducible refine at_op (Op.store 50 (.tmp 7) (.tmp 15)) ?_); refine wpList_put_row rfl 50 (.tmp 7) (.tmp 15) rfl (w2.heap.size) C1 rfl rfl 50 Z R4_q.out 33 infoPh S1.out SZ.out O1.out w1.heap.size w1 D4.out L3_q.out ?_; intro w5 hr hs hb; have R5_p := Lib.hid (hs.row R4_p.out N3_p.out); have R5_q := Lib.hid hr; have B5 := Lib.hid (joins B1.out hb); have L5_p := Lib.hid (Nat.le_trans B1.out.size L2_p.out); have L5_q := Lib.hid (Nat.le_trans B1.out.size L3_q.out); clear hr hs hb)
        | ((with_reducible refine at_op (d := some 19) (Op.load 50 (.tmp 6)) ?_); refine wpList_load_part rfl 50 (.tmp 6) rfl (w1.heap.size) 0 rfl C0 C0 50 (0, 0) _ R5_p.out (Part.self _) Try.underlying50 rfl I0.out ?_)
        | ((with_reducible refine at_op (d := some 20) (Op.load 50 (.tmp 7)) ?_); refine wpList_load_part rfl 50 (.tmp 7) rfl (w2.heap.size) 0 rfl C1 C1 50 (0, 0) _ R5_q.out (Part.self _) Try.underlying50 rfl I1.out ?_))
      refine (HMB.out (by trivial) _).mono ?_
      rintro e w20 ⟨mv, rfl, ho, hb⟩
      have B20 := Lib.hid (joins B5.out hb)
      have OM20 := Lib.hid (show OwnM w20 w.heap.size mv [] from rowMono ho B5.out.size)
      clear ho hb
      obtain ⟨a, cap, rfl⟩ := OM20.out.shape
      go_wp2_with fail
      go_returns
      exact ⟨_, rfl, World.ownsRow_nil _ _ _ _, B20.out⟩
    | cons x xs =>
      show Calls _ _ _ _ (MakesB w (mvI x) true)
      have B0 := Lib.hid (Below.refl w.heap.size w)
      go_enter Try.func21, Try.ntmps21
      go_wp2_with fail
      refine (HB_.out _ B0.out).mono ?_
      rintro e w1 ⟨rfl, hb⟩
      have B1 := Lib.hid (joins B0.out hb)
      clear hb
      go_wp2_with (first
        | ((with_reducible refine at_op (d := some 6) (Op.alloc 50) ?_); refine wpList_alloc_row rfl 50 rfl Z ZZ.out ?_; intro w2 hr hb hz; have R2_p := Lib.hid hr; have L2_p := Lib.hid (show w1.heap.size ≤ w1.heap.size from Nat.le_refl _); have D2 := Lib.hid (hb); clear hr hb hz)
        | ((with_reducible refine at_op (d := some 7) (Op.alloc 50) ?_); refine wpList_alloc_row rfl 50 rfl Z ZZ.out ?_; intro w3 hr hb hz; have N3_p := Lib.hid (Nat.ne_of_lt (row_lt R2_p.out)); have M3_p := Lib.hid (Ne.symm N3_p.out); have R3_p := Lib.hid (rowB R2_p.out hb); have R3_q := Lib.hid hr; have L3_q := Lib.hid (show w1.heap.size ≤ w2.heap.size from D2.out.size); have D3 := Lib.hid (joins D2.out hb); clear hr hb hz)
        | ((with_reducible refine at_op (Op.store 50 (.tmp 6) (.tmp 14)) ?_); refine wpList_put_row rfl 50 (.tmp 6) (.tmp 14) rfl (w1.heap.size) C0 rfl rfl 50 Z R3_p.out 33 infoPh S0.out SZ.out O0.out w1.heap.size w1 D3.out L2_p.out ?_; intro w4 hr hs hb; have R4_q := Lib.hid (hs.row R3_q.out M3_p.out); have R4_p := Lib.hid hr; have D4 := Lib.hid hb; clear hr hs hb)
        | ((with_reducible refine at_op (Op.store 50 (.tmp 7) (.tmp 15)) ?_); refine wpList_put_row rfl 50 (.tmp 7) (.tmp 15) rfl (w2.heap.size) C1 rfl rfl 50 Z R4_q.out 33 infoPh S1.out SZ.out O1.out w1.heap.size w1 D4.out L3_q.out ?_; intro w5 hr hs hb; have R5_p := Lib.hid (hs.row R4_p.out N3_p.out); have R5_q := Lib.hid hr; have B5 := Lib.hid (joins B1.out hb); have L5_p := Lib.hid (Nat.le_trans B1.out.size L2_p.out); have L5_q := Lib.hid (Nat.le_trans B1.out.size L3_q.out); clear hr hs hb)
        | ((with_reducible refine at_op (d := some 19) (Op.load 50 (.tmp 6)) ?_); refine wpList_load_part rfl 50 (.tmp 6) rfl (w1.heap.size) 0 rfl C0 C0 50 (0, 0) _ R5_p.out (Part.self _) Try.underlying50 rfl I0.out ?_)
        | ((with_reducible refine at_op (d := some 20) (Op.load 50 (.tmp 7)) ?_); refine wpList_load_part rfl 50 (.tmp 7) rfl (w2.heap.size) 0 rfl C1 C1 50 (0, 0) _ R5_q.out (Part.self _) Try.underlying50 rfl I1.out ?_))
      refine (HMB.out (by trivial) _).mono ?_
      rintro e w20 ⟨mv, rfl, ho, hb⟩
      have B20 := Lib.hid (joins B5.out hb)
      have OM20 := Lib.hid (show OwnM w20 w.heap.size mv (x :: xs) from rowMono ho B5.out.size)
      clear ho hb
      obtain ⟨a, cap, rfl⟩ := OM20.out.shape
      obtain ⟨g, rfl, hg, hrange⟩ := OM20.out.cell 0 (by simp)
      have HRG := Lib.hid (show w20.rangeAt g 0 [.int .i64 ((x : Int) / 16), .int .i64 ((x : Int) / 4 % 4), .int .i64 ((x : Int) / 2 % 2), .int .i64 ((x : Int) % 2)] from hrange)
      have HML := Lib.hid (moveList_any ((x : Int) / 16) ((x : Int) / 4 % 4) ((x : Int) / 2 % 2) ((x : Int) % 2))
      have hne : (((x :: xs).length : Nat) : Int) ≠ 0 := by simp only [List.length_cons]; omega
      have hlt : (0 : Int) < (((x :: xs).length : Nat) : Int) := by simp only [List.length_cons]; omega
      obtain ⟨n, hn⟩ : ∃ n, n = (x :: xs).length := ⟨_, rfl⟩
      rw [← hn] at hne hlt ⊢
      have hnb : ((n : Int) == 0) = false := by simpa using hne
      clear hrange hg hn
      go_wp2_with (refine load_move rfl (.tmp 26) rfl g 0 rfl _ _ _ _ HRG.out ?_)
      refine (HML.out _).mono ?_
      rintro e w21 ⟨s, rfl, ho, hb⟩
      have B21 := Lib.hid (joins B20.out hb)
      have O21 := Lib.hid (ho.mono B20.out.size)
      clear ho hb
      go_wp2_with fail
      go_returns
      exact ⟨_, rfl, O21.out, B21.out⟩

set_option maxRecDepth 100000 in
set_option maxHeartbeats 4000000 in
theorem iKeepersOf (v : Value) (l : List Int) (w : World) (hv : IS w v l) (hl : l.length ≤ 1048576) : Calls Try.prog 23 #[v] w (MakesRB w (kpF l) (ranked l)) := by
  have HR := Lib.hid (fun w' (h : Below w.heap.size w w') => rankedOf_any v l w' (hv.below h) hl)
  have ZZ := Lib.hid zeroPh
  have ZM := Lib.hid zeroMv
  have SZ := Lib.hid (phA_size z32 0 z32_length)
  obtain ⟨Z, hZ⟩ : ∃ Z, Z = phA z32 0 := ⟨_, rfl⟩
  rw [← hZ] at ZZ SZ
  have S0 := Lib.hid (phC_size (rkz l))
  have O0 := Lib.hid (phC_one (rkz l))
  have I0 := Lib.hid (phC_info (rkz l))
  have HMB := Lib.hid (fun (h : ranked l = true) w => show Calls Try.prog 47 #[.agg (phC (rkz l)), .agg (phC (rkz l))] w (MakesM w (mbX l l 64)) from by
    rw [rkz_yes h]
    exact movesBetween_any l l (ranked_seq h).1 (ranked_seq h).1 w)
  obtain ⟨C0, h0⟩ : ∃ C, C = phC (rkz l) := ⟨_, rfl⟩
  rw [← h0] at S0 O0 I0 HR HMB
  have HLE := Lib.hid (mbX_le l l 64)
  unfold kpF
  obtain ⟨X, hX⟩ : ∃ X, X = mbX l l 64 := ⟨_, rfl⟩
  rw [← hX] at HMB HLE ⊢
  obtain ⟨r, hr⟩ : ∃ r, r = ranked l := ⟨_, rfl⟩
  rw [← hr] at HR HMB ⊢
  have HTK := Lib.hid (fun k (hk : k < X.length) => show (X.take (k + 1)).map mvI = (X.take k).map mvI ++ [mvI (X.getD k 0)] from by
    rw [List.take_add_one, List.map_append]
    simp [List.getD, hk])
  have HTL := Lib.hid (fun k => show ((X.take k).map mvI).length ≤ 1048576 from by
    have := HLE.out
    rw [List.length_map, List.length_take]; omega)
  clear hZ h0 hr hX hv hl
  cases r
  · have B0 := Lib.hid (Below.refl w.heap.size w)
    go_enter Try.func23, Try.ntmps23
    go_wp2_with fail
    refine (HR.out _ B0.out).mono ?_
    rintro e w1 ⟨rfl, hb⟩
    have B1 := Lib.hid (joins B0.out hb)
    clear hb
    go_wp2_with (first
      | ((with_reducible refine at_op (d := some 4) (Op.alloc 50) ?_); refine wpList_alloc_row rfl 50 rfl Z ZZ.out ?_; intro w2 hr hb hz; have R2_p := Lib.hid hr; have L2_p := Lib.hid (show w1.heap.size ≤ w1.heap.size from Nat.le_refl _); have D2 := Lib.hid (hb); clear hr hb hz)
      | ((with_reducible refine at_op (Op.store 50 (.tmp 4) (.tmp 12)) ?_); refine wpList_put_row rfl 50 (.tmp 4) (.tmp 12) rfl (w1.heap.size) C0 rfl rfl 50 Z R2_p.out 33 infoPh S0.out SZ.out O0.out w1.heap.size w1 D2.out L2_p.out ?_; intro w3 hr hs hb; have R3_p := Lib.hid hr; have B3 := Lib.hid (joins B1.out hb); have L3_p := Lib.hid (Nat.le_trans B1.out.size L2_p.out); clear hr hs hb))
    go_returns
    exact ⟨_, rfl, OwnR.nil _ _, B3.out⟩
  · have B0 := Lib.hid (Below.refl w.heap.size w)
    go_enter Try.func23, Try.ntmps23
    go_wp2_with fail
    refine (HR.out _ B0.out).mono ?_
    rintro e w1 ⟨rfl, hb⟩
    have B1 := Lib.hid (joins B0.out hb)
    clear hb
    go_wp2_with (first
      | ((with_reducible refine at_op (d := some 4) (Op.alloc 50) ?_); refine wpList_alloc_row rfl 50 rfl Z ZZ.out ?_; intro w2 hr hb hz; have R2_p := Lib.hid hr; have L2_p := Lib.hid (show w1.heap.size ≤ w1.heap.size from Nat.le_refl _); have D2 := Lib.hid (hb); clear hr hb hz)
      | ((with_reducible refine at_op (Op.store 50 (.tmp 4) (.tmp 12)) ?_); refine wpList_put_row rfl 50 (.tmp 4) (.tmp 12) rfl (w1.heap.size) C0 rfl rfl 50 Z R2_p.out 33 infoPh S0.out SZ.out O0.out w1.heap.size w1 D2.out L2_p.out ?_; intro w3 hr hs hb; have R3_p := Lib.hid hr; have B3 := Lib.hid (joins B1.out hb); have L3_p := Lib.hid (Nat.le_trans B1.out.size L2_p.out); clear hr hs hb)
      | ((with_reducible refine at_op (d := some 16) (Op.load 50 (.tmp 4)) ?_); refine wpList_load_part rfl 50 (.tmp 4) rfl (w1.heap.size) 0 rfl C0 C0 50 (0, 0) _ R3_p.out (Part.self _) Try.underlying50 rfl I0.out ?_)
      | ((with_reducible refine at_op (d := some 17) (Op.load 50 (.tmp 4)) ?_); refine wpList_load_part rfl 50 (.tmp 4) rfl (w1.heap.size) 0 rfl C0 C0 50 (0, 0) _ R3_p.out (Part.self _) Try.underlying50 rfl I0.out ?_))
    refine (HMB.out (by trivial) _).mono ?_
    rintro e w20 ⟨mv, rfl, ho, hb⟩
    have B20 := Lib.hid (joins B3.out hb)
    obtain ⟨a, cap, rfl⟩ := OwnM.shape ho
    have CE := Lib.hid (fun k (hk : k < X.length) => OwnM.cell ho k hk)
    obtain ⟨n, hn⟩ : ∃ n, n = X.length := ⟨_, rfl⟩
    rw [← hn] at CE HLE HTK ⊢
    have hn64 := HLE.out
    have HN := Lib.hid hn
    clear ho hb hn
    go_wp2_with fail
    go_loopw [20, 6] (fun i o wr => ∃ k : Nat, k ≤ n ∧ i = .int .i64 k ∧ OwnR wr w20.heap.size o ((X.take k).map mvI) ∧ Below w20.heap.size w20 wr) (fun i _ _ => n - (intOf i).toNat)
    case atStart => exact ⟨0, Nat.zero_le _, rfl, OwnR.nil _ _, Below.refl _ _⟩
    case round =>
      obtain ⟨k, hk, rfl, hown, hbel⟩ := hrel
      have RO := Lib.hid hown
      have BR := Lib.hid hbel
      by_cases hlt : k < n
      · obtain ⟨g, rfl, hg, hrange⟩ := CE.out k hlt
        have HRG := Lib.hid (range_below hrange hbel)
        have HTk := Lib.hid (HTK.out k hlt)
        have HTLk := Lib.hid (HTL.out k)
        have h0 : (0 : Int) ≤ (k : Int) := by omega
        have h1 : (k : Int) < (n : Int) := by omega
        obtain ⟨x, hx⟩ : ∃ x, x = X.getD k 0 := ⟨_, rfl⟩
        rw [← hx] at HRG HTk
        have HML := Lib.hid (moveList_any ((x : Int) / 16) ((x : Int) / 4 % 4) ((x : Int) / 2 % 2) ((x : Int) % 2))
        clear hown hbel hrange hg hx
        go_wp2_with (first
          | ((with_reducible refine at_op (d := some 23) (Op.load 44 (.tmp 22)) ?_); refine load_move rfl (.tmp 22) rfl g (k * 4) rfl _ _ _ _ HRG.out ?_)
          | ((with_reducible refine at_op (d := some 8) (Op.alloc 44) ?_); refine wpList_alloc_row rfl 44 rfl zM ZM.out ?_; intro w31 hr hb hz; have R31_m := Lib.hid hr; have L31_m := Lib.hid (show wr.heap.size ≤ wr.heap.size from Nat.le_refl _); have D31 := Lib.hid (hb); clear hr hb hz)
          | ((with_reducible refine at_op (Op.store 44 (.tmp 8) (.tmp 23)) ?_); refine wpList_put_row rfl 44 (.tmp 8) (.tmp 23) rfl (wr.heap.size) #[.int .i64 ((x : Int) / 16), .int .i64 ((x : Int) / 4 % 4), .int .i64 ((x : Int) / 2 % 2), .int .i64 ((x : Int) % 2)] rfl rfl 44 zM R31_m.out 4 infoMv rfl rfl (one4 _ _ _ _) wr.heap.size wr D31.out L31_m.out ?_; intro w32 hr hs hb; have R32_m := Lib.hid hr; have F32_o := Lib.hid (OwnR.below RO.out hb); have B32 := Lib.hid (joins BR.out hb); have L32_m := Lib.hid (Nat.le_trans BR.out.size L31_m.out); clear hr hs hb)
          | ((with_reducible refine at_op (d := some 25) (Op.load 44 (.tmp 8)) ?_); refine wpList_load_part rfl 44 (.tmp 8) rfl (wr.heap.size) 0 rfl #[.int .i64 ((x : Int) / 16), .int .i64 ((x : Int) / 4 % 4), .int .i64 ((x : Int) / 2 % 2), .int .i64 ((x : Int) % 2)] #[.int .i64 ((x : Int) / 16), .int .i64 ((x : Int) / 4 % 4), .int .i64 ((x : Int) / 2 % 2), .int .i64 ((x : Int) % 2)] 44 (0, 0) _ R32_m.out (Part.self _) Try.underlying44 rfl (info4 _ _ _ _) ?_))
        refine (HML.out _).mono ?_
        rintro e w40 ⟨s, rfl, ho, hb⟩
        have B40 := Lib.hid (joins B32.out hb)
        have O40 := Lib.hid ho
        obtain ⟨sa, sc, rfl⟩ := ho.is.sl
        have BW := Lib.hid hb
        clear ho hb
        go_wp2_with (at_builtin; refine wpList_pushR rfl _ _ rfl w20.heap.size _ ((X.take k).map mvI) rfl w32 F32_o.out (belowa BW.out _) w40.heap.size 1 _ (mvI x) rfl (by simp) (O40.out.alloc _) HTLk.out w20.heap.size w20 (belowa B40.out _) (Nat.le_refl _) B32.out.size (by have := B40.out.size; simp; omega) ?_; intro v9 w9 ho9 hb9)
        go_roundw
        case rel => exact ⟨k + 1, by omega, by go_num, by rw [HTk.out]; exact ho9, hb9⟩
        case measure => simp [intOf]; omega
      · obtain rfl : k = n := by omega
        have HFI := Lib.hid (show OwnR wr w.heap.size u6 (X.map mvI) from by
          have := hown
          rw [HN.out, List.take_length] at this
          exact this.mono B20.out.size)
        have HBB := Lib.hid (joins B20.out hbel)
        clear hown hbel
        go_wp2_with fail
        go_returns
        exact ⟨_, rfl, HFI.out, HBB.out⟩
end Go.Proofs.Ytcagiecgbjnefaa
