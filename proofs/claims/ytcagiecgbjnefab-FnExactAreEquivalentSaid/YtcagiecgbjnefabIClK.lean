/- The program's bothRanked, MoveBetween, KeepersOf. -/
import Derived.Test.YtcagiecgbjnefabIClM
namespace Go.Proofs.Ytcagiecgbjnefab
set_option maxRecDepth 100000
open Go.RowKit

theorem results_two_cells {P : Program} {fn : Func} {p q u : Tmp} {ty : TypeId} (h : fn.results = #[.cell p ty, .cell q ty, .tmp u]) (tmps : Array Value) (w : World) (g g2 : Nat) (t : TypeId) (cs cs2 : Array Value) (fr fr2 : Nat × Nat) (d : TypeDesc)
    (hp : tmps.getD p undef = .pointer (some ⟨g, 0, none⟩)) (hq : tmps.getD q undef = .pointer (some ⟨g2, 0, none⟩)) (hg : w.heap[g]? = some (.cells cs t fr)) (hg2 : w.heap[g2]? = some (.cells cs2 t fr2))
    (hu : P.underlying ty = some d) (hd : (match d with | .struct _ | .array _ _ => true | _ => false) = true) (hi : (P.info? ty).map (·.size) = some cs.size) (hi2 : (P.info? ty).map (·.size) = some cs2.size) :
    (results fn tmps).run P w = .ok (.tuple #[.agg cs, .agg cs2, tmps.getD u undef]) w := by
  have hp' : tmps[p]?.getD undef = .pointer (some ⟨g, 0, none⟩) := by simpa using hp
  have hq' : tmps[q]?.getD undef = .pointer (some ⟨g2, 0, none⟩) := by simpa using hq
  simp [results, h, hp', hq', asAddr, run_loadVar_row w g t ty cs fr d hg hu hd hi, run_loadVar_row w g2 t ty cs2 fr2 d hg2 hu hd hi2]

set_option maxRecDepth 100000 in
set_option maxHeartbeats 4000000 in
theorem bothRanked_any (v vt : Value) (l t : List Int) (w : World) (hv : IS w v l) (hvt : IS w vt t) (hl : l.length ≤ 1048576) (ht : t.length ≤ 1048576) :
    Calls Try.prog 43 #[v, vt] w (Ret w (.tuple #[.agg (phC (rkz l)), .agg (phC (rkz t)), .bool (bothR l t)])) := by
  have HR := Lib.hid (fun w' (h : Below w.heap.size w w') => rankedOf_any v l w' (hv.below h) hl)
  have HT := Lib.hid (fun w' (h : Below w.heap.size w w') => rankedOf_any vt t w' (hvt.below h) ht)
  have ZZ := Lib.hid zeroPh
  have SZ := Lib.hid (phA_size z32 0 z32_length)
  obtain ⟨Z, hZ⟩ : ∃ Z, Z = phA z32 0 := ⟨_, rfl⟩
  rw [← hZ] at ZZ SZ
  have S0 := Lib.hid (phC_size (rkz l))
  have O0 := Lib.hid (phC_one (rkz l))
  have I0 := Lib.hid (phC_info (rkz l))
  have S1 := Lib.hid (phC_size (rkz t))
  have O1 := Lib.hid (phC_one (rkz t))
  have I1 := Lib.hid (phC_info (rkz t))
  obtain ⟨C0, h0⟩ : ∃ C, C = phC (rkz l) := ⟨_, rfl⟩
  rw [← h0] at S0 O0 I0 HR ⊢
  obtain ⟨C1, h1⟩ : ∃ C, C = phC (rkz t) := ⟨_, rfl⟩
  rw [← h1] at S1 O1 I1 HT ⊢
  unfold bothR
  obtain ⟨r, hr⟩ : ∃ r, r = ranked l := ⟨_, rfl⟩
  obtain ⟨q, hq⟩ : ∃ r, r = ranked t := ⟨_, rfl⟩
  rw [← hr] at HR ⊢
  rw [← hq] at HT ⊢
  clear hZ h0 h1 hr hq hv hvt hl ht
  cases r
  · have B0 := Lib.hid (Below.refl w.heap.size w)
    go_enter Try.func43, Try.ntmps43
    go_wp2_with (first
      | ((with_reducible refine at_op (d := some 4) (Op.alloc 47) ?_); refine wpList_alloc_row rfl 47 rfl Z ZZ.out ?_; intro w1 hr hb hz; have R1_r1 := Lib.hid hr; have B1 := Lib.hid (joins B0.out hb); have L1_r1 := Lib.hid (show w.heap.size ≤ w.heap.size from B0.out.size); clear hr hb hz)
      | ((with_reducible refine at_op (d := some 5) (Op.alloc 47) ?_); refine wpList_alloc_row rfl 47 rfl Z ZZ.out ?_; intro w2 hr hb hz; have N2_r1_r2 := Lib.hid (Nat.ne_of_lt (row_lt R1_r1.out)); have N2_r2_r1 := Lib.hid (Ne.symm N2_r1_r2.out); have R2_r1 := Lib.hid (rowB R1_r1.out hb); have R2_r2 := Lib.hid hr; have B2 := Lib.hid (joins B1.out hb); have L2_r2 := Lib.hid (show w.heap.size ≤ w1.heap.size from B1.out.size); clear hr hb hz))
    refine (HR.out _ B2.out).mono ?_
    rintro e w3 ⟨rfl, hb⟩
    have R3_r1 := Lib.hid (rowB R2_r1.out hb)
    have R3_r2 := Lib.hid (rowB R2_r2.out hb)
    have B3 := Lib.hid (joins B2.out hb)
    clear hb
    go_wp2_with (first
      | ((with_reducible refine at_op (d := some 7) (Op.alloc 47) ?_); refine wpList_alloc_row rfl 47 rfl Z ZZ.out ?_; intro w4 hr hb hz; have N4_r1_p := Lib.hid (Nat.ne_of_lt (row_lt R3_r1.out)); have N4_p_r1 := Lib.hid (Ne.symm N4_r1_p.out); have N4_r2_p := Lib.hid (Nat.ne_of_lt (row_lt R3_r2.out)); have N4_p_r2 := Lib.hid (Ne.symm N4_r2_p.out); have R4_r1 := Lib.hid (rowB R3_r1.out hb); have R4_r2 := Lib.hid (rowB R3_r2.out hb); have R4_p := Lib.hid hr; have B4 := Lib.hid (joins B3.out hb); have L4_p := Lib.hid (show w.heap.size ≤ w3.heap.size from B3.out.size); clear hr hb hz)
      | ((with_reducible refine at_op (Op.store 47 (.tmp 7) (.tmp 14)) ?_); refine wpList_put_row rfl 47 (.tmp 7) (.tmp 14) rfl (w3.heap.size) C0 rfl rfl 47 Z R4_p.out 33 infoPh S0.out SZ.out O0.out w.heap.size w B4.out L4_p.out ?_; intro w5 hr hs hb; have R5_r1 := Lib.hid (hs.row R4_r1.out N4_r1_p.out); have R5_r2 := Lib.hid (hs.row R4_r2.out N4_r2_p.out); have R5_p := Lib.hid hr; have B5 := Lib.hid hb; clear hr hs hb))
    refine (HT.out _ B5.out).mono ?_
    rintro e w6 ⟨rfl, hb⟩
    have R6_r1 := Lib.hid (rowB R5_r1.out hb)
    have R6_r2 := Lib.hid (rowB R5_r2.out hb)
    have R6_p := Lib.hid (rowB R5_p.out hb)
    have B6 := Lib.hid (joins B5.out hb)
    clear hb
    go_wp2_with (first
      | ((with_reducible refine at_op (d := some 9) (Op.alloc 47) ?_); refine wpList_alloc_row rfl 47 rfl Z ZZ.out ?_; intro w7 hr hb hz; have N7_r1_q := Lib.hid (Nat.ne_of_lt (row_lt R6_r1.out)); have N7_q_r1 := Lib.hid (Ne.symm N7_r1_q.out); have N7_r2_q := Lib.hid (Nat.ne_of_lt (row_lt R6_r2.out)); have N7_q_r2 := Lib.hid (Ne.symm N7_r2_q.out); have N7_p_q := Lib.hid (Nat.ne_of_lt (row_lt R6_p.out)); have N7_q_p := Lib.hid (Ne.symm N7_p_q.out); have R7_r1 := Lib.hid (rowB R6_r1.out hb); have R7_r2 := Lib.hid (rowB R6_r2.out hb); have R7_p := Lib.hid (rowB R6_p.out hb); have R7_q := Lib.hid hr; have B7 := Lib.hid (joins B6.out hb); have L7_q := Lib.hid (show w.heap.size ≤ w6.heap.size from B6.out.size); clear hr hb hz)
      | ((with_reducible refine at_op (Op.store 47 (.tmp 9) (.tmp 19)) ?_); refine wpList_put_row rfl 47 (.tmp 9) (.tmp 19) rfl (w6.heap.size) C1 rfl rfl 47 Z R7_q.out 33 infoPh S1.out SZ.out O1.out w.heap.size w B7.out L7_q.out ?_; intro w8 hr hs hb; have R8_r1 := Lib.hid (hs.row R7_r1.out N7_r1_q.out); have R8_r2 := Lib.hid (hs.row R7_r2.out N7_r2_q.out); have R8_p := Lib.hid (hs.row R7_p.out N7_p_q.out); have R8_q := Lib.hid hr; have B8 := Lib.hid hb; clear hr hs hb))
    go_wp2_with fail
    refine wp_region_held_drew (S := (fun w' => w'.heap[w3.heap.size]? = some (.cells C0 47 (0, 0)) ∧ w'.heap[w6.heap.size]? = some (.cells C1 47 (0, 0)))) (by kernel_rfl) ⟨R8_p.out, R8_q.out⟩ ?_
    obtain ⟨w9, hdw⟩ : ∃ w', w' = w8.drew := ⟨_, rfl⟩
    rw [← hdw]
    have hb : Below w8.heap.size w8 w9 := by rw [hdw]; exact belowN (Below.refl _ _) 1
    have R9_r1 := Lib.hid (rowB R8_r1.out hb)
    have R9_r2 := Lib.hid (rowB R8_r2.out hb)
    have R9_p := Lib.hid (rowB R8_p.out hb)
    have R9_q := Lib.hid (rowB R8_q.out hb)
    have B9 := Lib.hid (joins B8.out hb)
    clear hdw hb
    intro hHeld
    refine' wpAnyH_take (i := 0) (v := _) rfl (by kernel_rfl) (by kernel_rfl) (by kernel_rfl) (fun _ _ _ h => h) (yieldsPart (by rfl) 47 (.tmp 7) rfl (w3.heap.size) 0 rfl C0 C0 47 (0, 0) _ (fun w h => h.1) (Part.self _) Try.underlying47 rfl I0.out) (by assumption) ?rest1
    (try simp only [Act.put, List.getElem_toArray, List.getElem_cons_zero, List.setIfInBounds_toArray, List.set_cons_zero, List.set_cons_succ])
    refine' wpAnyH_take (i := 1) (v := _) rfl (by kernel_rfl) (by kernel_rfl) (by kernel_rfl) (fun _ _ _ h => h) (yieldsPart (by rfl) 47 (.tmp 9) rfl (w6.heap.size) 0 rfl C1 C1 47 (0, 0) _ (fun w h => h.2) (Part.self _) Try.underlying47 rfl I1.out) (by assumption) ?rest2
    (try simp only [Act.put, List.getElem_toArray, List.getElem_cons_zero, List.getElem_cons_succ, List.setIfInBounds_toArray, List.set_cons_zero, List.set_cons_succ])
    refine' wpAnyH_take (i := 2) (v := _) rfl (by kernel_rfl) (by kernel_rfl) (by kernel_rfl) (fun _ _ _ h => h) (Or.inl ⟨by rfl, ?hy3⟩) (by assumption) ?rest3
    case hy3 =>
      intro w h
      (try clear h)
      go_simp
      (try with_reducible rfl)
    (try simp only [Act.put, List.getElem_toArray, List.getElem_cons_zero, List.getElem_cons_succ, List.setIfInBounds_toArray, List.set_cons_zero, List.set_cons_succ])
    refine' wpAnyH_take (i := 3) (v := _) rfl (by kernel_rfl) (by kernel_rfl) (by kernel_rfl) (fun _ _ _ h => h) (Or.inl ⟨by rfl, ?hy4⟩) (by assumption) ?rest4
    case hy4 =>
      intro w h
      (try clear h)
      go_simp
      (try with_reducible rfl)
    (try simp only [Act.put, List.getElem_toArray, List.getElem_cons_zero, List.getElem_cons_succ, List.setIfInBounds_toArray, List.set_cons_zero, List.set_cons_succ])
    refine' wpAnyH_take (i := 4) (v := _) rfl (by kernel_rfl) (by kernel_rfl) (by kernel_rfl) (fun _ _ _ h => h) (Or.inr ⟨by rfl, rfl⟩) (by assumption) ?rest5
    (try simp only [Act.put, List.getElem_toArray, List.getElem_cons_zero, List.getElem_cons_succ, List.setIfInBounds_toArray, List.set_cons_zero, List.set_cons_succ])
    refine' wpAnyH_take (i := 5) (v := _) rfl (by kernel_rfl) (by kernel_rfl) (by kernel_rfl) (fun _ _ _ h => h) (Or.inl ⟨by rfl, ?hy6⟩) (by assumption) ?rest6
    case hy6 =>
      intro w h
      (try clear h)
      go_simp
      (try with_reducible rfl)
    (try simp only [Act.put, List.getElem_toArray, List.getElem_cons_zero, List.getElem_cons_succ, List.setIfInBounds_toArray, List.set_cons_zero, List.set_cons_succ])
    refine wpAnyH_ready (rs := [6]) (by kernel_rfl) (by simp) ?_
    refine AllReadyH.cons rfl (fun K hK => ?_) AllReadyH.nil
    rw [if_pos (by rfl)]
    refine wp_put_row 47 (.tmp 4) (.tmp 21) rfl (w.heap.size) C0 rfl rfl 47 Z R9_r1.out 33 infoPh S0.out SZ.out O0.out w.heap.size w B9.out L1_r1.out ?_
    intro w10 hr hs hb
    have R10_r2 := Lib.hid (hs.row R9_r2.out N2_r2_r1.out)
    have R10_p := Lib.hid (hs.row R9_p.out N4_p_r1.out)
    have R10_q := Lib.hid (hs.row R9_q.out N7_q_r1.out)
    have R10_r1 := Lib.hid hr
    have B10 := Lib.hid hb
    have hHeld := (show _ ∧ _ from ⟨hs.row hHeld.1 N4_p_r1.out, hs.row hHeld.2 N7_q_r1.out⟩)
    clear hr hs hb
    refine hK.out _ _ hHeld (fun hHeld => ?_)
    clear hK K
    (try simp only [Act.put])
    refine wpAnyH_ready (rs := [7]) (by kernel_rfl) (by simp) ?_
    refine AllReadyH.cons rfl (fun K hK => ?_) AllReadyH.nil
    rw [if_pos (by rfl)]
    refine wp_put_row 47 (.tmp 5) (.tmp 22) rfl (w1.heap.size) C1 rfl rfl 47 Z R10_r2.out 33 infoPh S1.out SZ.out O1.out w.heap.size w B10.out L2_r2.out ?_
    intro w11 hr hs hb
    have R11_r1 := Lib.hid (hs.row R10_r1.out N2_r1_r2.out)
    have R11_p := Lib.hid (hs.row R10_p.out N4_p_r2.out)
    have R11_q := Lib.hid (hs.row R10_q.out N7_q_r2.out)
    have R11_r2 := Lib.hid hr
    have B11 := Lib.hid hb
    have hHeld := (show _ ∧ _ from ⟨hs.row hHeld.1 N4_p_r2.out, hs.row hHeld.2 N7_q_r2.out⟩)
    clear hr hs hb
    refine hK.out _ _ hHeld (fun hHeld => ?_)
    clear hK K
    (try simp only [Act.put])
    refine' wpAnyH_take (i := 8) (v := _) rfl (by kernel_rfl) (by kernel_rfl) (by kernel_rfl) (fun _ _ _ h => h) (Or.inl ⟨by rfl, ?hy7⟩) (by assumption) ?rest7
    case hy7 =>
      intro w h
      (try clear h)
      go_simp
      (try with_reducible rfl)
    (try simp only [Act.put, List.getElem_toArray, List.getElem_cons_zero, List.getElem_cons_succ, List.setIfInBounds_toArray, List.set_cons_zero, List.set_cons_succ])
    refine wpAnyH_done (by kernel_rfl) ?_ _
    go_wp2_with fail
    refine bodyPost_ret (v := .tuple #[.agg C0, .agg C1, .bool (false && q)]) ?_ rfl ⟨rfl, B11.out⟩
    exact results_two_cells Try.results43 _ _ (w.heap.size) (w1.heap.size) 47 C0 C1 (0, 0) (0, 0) _ rfl rfl R11_r1.out R11_r2.out Try.underlying47 rfl I0.out I1.out
  · have B0 := Lib.hid (Below.refl w.heap.size w)
    go_enter Try.func43, Try.ntmps43
    go_wp2_with (first
      | ((with_reducible refine at_op (d := some 4) (Op.alloc 47) ?_); refine wpList_alloc_row rfl 47 rfl Z ZZ.out ?_; intro w1 hr hb hz; have R1_r1 := Lib.hid hr; have B1 := Lib.hid (joins B0.out hb); have L1_r1 := Lib.hid (show w.heap.size ≤ w.heap.size from B0.out.size); clear hr hb hz)
      | ((with_reducible refine at_op (d := some 5) (Op.alloc 47) ?_); refine wpList_alloc_row rfl 47 rfl Z ZZ.out ?_; intro w2 hr hb hz; have N2_r1_r2 := Lib.hid (Nat.ne_of_lt (row_lt R1_r1.out)); have N2_r2_r1 := Lib.hid (Ne.symm N2_r1_r2.out); have R2_r1 := Lib.hid (rowB R1_r1.out hb); have R2_r2 := Lib.hid hr; have B2 := Lib.hid (joins B1.out hb); have L2_r2 := Lib.hid (show w.heap.size ≤ w1.heap.size from B1.out.size); clear hr hb hz))
    refine (HR.out _ B2.out).mono ?_
    rintro e w3 ⟨rfl, hb⟩
    have R3_r1 := Lib.hid (rowB R2_r1.out hb)
    have R3_r2 := Lib.hid (rowB R2_r2.out hb)
    have B3 := Lib.hid (joins B2.out hb)
    clear hb
    go_wp2_with (first
      | ((with_reducible refine at_op (d := some 7) (Op.alloc 47) ?_); refine wpList_alloc_row rfl 47 rfl Z ZZ.out ?_; intro w4 hr hb hz; have N4_r1_p := Lib.hid (Nat.ne_of_lt (row_lt R3_r1.out)); have N4_p_r1 := Lib.hid (Ne.symm N4_r1_p.out); have N4_r2_p := Lib.hid (Nat.ne_of_lt (row_lt R3_r2.out)); have N4_p_r2 := Lib.hid (Ne.symm N4_r2_p.out); have R4_r1 := Lib.hid (rowB R3_r1.out hb); have R4_r2 := Lib.hid (rowB R3_r2.out hb); have R4_p := Lib.hid hr; have B4 := Lib.hid (joins B3.out hb); have L4_p := Lib.hid (show w.heap.size ≤ w3.heap.size from B3.out.size); clear hr hb hz)
      | ((with_reducible refine at_op (Op.store 47 (.tmp 7) (.tmp 14)) ?_); refine wpList_put_row rfl 47 (.tmp 7) (.tmp 14) rfl (w3.heap.size) C0 rfl rfl 47 Z R4_p.out 33 infoPh S0.out SZ.out O0.out w.heap.size w B4.out L4_p.out ?_; intro w5 hr hs hb; have R5_r1 := Lib.hid (hs.row R4_r1.out N4_r1_p.out); have R5_r2 := Lib.hid (hs.row R4_r2.out N4_r2_p.out); have R5_p := Lib.hid hr; have B5 := Lib.hid hb; clear hr hs hb))
    refine (HT.out _ B5.out).mono ?_
    rintro e w6 ⟨rfl, hb⟩
    have R6_r1 := Lib.hid (rowB R5_r1.out hb)
    have R6_r2 := Lib.hid (rowB R5_r2.out hb)
    have R6_p := Lib.hid (rowB R5_p.out hb)
    have B6 := Lib.hid (joins B5.out hb)
    clear hb
    go_wp2_with (first
      | ((with_reducible refine at_op (d := some 9) (Op.alloc 47) ?_); refine wpList_alloc_row rfl 47 rfl Z ZZ.out ?_; intro w7 hr hb hz; have N7_r1_q := Lib.hid (Nat.ne_of_lt (row_lt R6_r1.out)); have N7_q_r1 := Lib.hid (Ne.symm N7_r1_q.out); have N7_r2_q := Lib.hid (Nat.ne_of_lt (row_lt R6_r2.out)); have N7_q_r2 := Lib.hid (Ne.symm N7_r2_q.out); have N7_p_q := Lib.hid (Nat.ne_of_lt (row_lt R6_p.out)); have N7_q_p := Lib.hid (Ne.symm N7_p_q.out); have R7_r1 := Lib.hid (rowB R6_r1.out hb); have R7_r2 := Lib.hid (rowB R6_r2.out hb); have R7_p := Lib.hid (rowB R6_p.out hb); have R7_q := Lib.hid hr; have B7 := Lib.hid (joins B6.out hb); have L7_q := Lib.hid (show w.heap.size ≤ w6.heap.size from B6.out.size); clear hr hb hz)
      | ((with_reducible refine at_op (Op.store 47 (.tmp 9) (.tmp 19)) ?_); refine wpList_put_row rfl 47 (.tmp 9) (.tmp 19) rfl (w6.heap.size) C1 rfl rfl 47 Z R7_q.out 33 infoPh S1.out SZ.out O1.out w.heap.size w B7.out L7_q.out ?_; intro w8 hr hs hb; have R8_r1 := Lib.hid (hs.row R7_r1.out N7_r1_q.out); have R8_r2 := Lib.hid (hs.row R7_r2.out N7_r2_q.out); have R8_p := Lib.hid (hs.row R7_p.out N7_p_q.out); have R8_q := Lib.hid hr; have B8 := Lib.hid hb; clear hr hs hb))
    go_wp2_with fail
    refine wp_region_held_drew (S := (fun w' => w'.heap[w3.heap.size]? = some (.cells C0 47 (0, 0)) ∧ w'.heap[w6.heap.size]? = some (.cells C1 47 (0, 0)))) (by kernel_rfl) ⟨R8_p.out, R8_q.out⟩ ?_
    obtain ⟨w9, hdw⟩ : ∃ w', w' = w8.drew := ⟨_, rfl⟩
    rw [← hdw]
    have hb : Below w8.heap.size w8 w9 := by rw [hdw]; exact belowN (Below.refl _ _) 1
    have R9_r1 := Lib.hid (rowB R8_r1.out hb)
    have R9_r2 := Lib.hid (rowB R8_r2.out hb)
    have R9_p := Lib.hid (rowB R8_p.out hb)
    have R9_q := Lib.hid (rowB R8_q.out hb)
    have B9 := Lib.hid (joins B8.out hb)
    clear hdw hb
    intro hHeld
    refine' wpAnyH_take (i := 0) (v := _) rfl (by kernel_rfl) (by kernel_rfl) (by kernel_rfl) (fun _ _ _ h => h) (yieldsPart (by rfl) 47 (.tmp 7) rfl (w3.heap.size) 0 rfl C0 C0 47 (0, 0) _ (fun w h => h.1) (Part.self _) Try.underlying47 rfl I0.out) (by assumption) ?rest8
    (try simp only [Act.put, List.getElem_toArray, List.getElem_cons_zero, List.setIfInBounds_toArray, List.set_cons_zero, List.set_cons_succ])
    refine' wpAnyH_take (i := 1) (v := _) rfl (by kernel_rfl) (by kernel_rfl) (by kernel_rfl) (fun _ _ _ h => h) (yieldsPart (by rfl) 47 (.tmp 9) rfl (w6.heap.size) 0 rfl C1 C1 47 (0, 0) _ (fun w h => h.2) (Part.self _) Try.underlying47 rfl I1.out) (by assumption) ?rest9
    (try simp only [Act.put, List.getElem_toArray, List.getElem_cons_zero, List.getElem_cons_succ, List.setIfInBounds_toArray, List.set_cons_zero, List.set_cons_succ])
    refine' wpAnyH_take (i := 2) (v := _) rfl (by kernel_rfl) (by kernel_rfl) (by kernel_rfl) (fun _ _ _ h => h) (Or.inl ⟨by rfl, ?hy10⟩) (by assumption) ?rest10
    case hy10 =>
      intro w h
      (try clear h)
      go_simp
      (try with_reducible rfl)
    (try simp only [Act.put, List.getElem_toArray, List.getElem_cons_zero, List.getElem_cons_succ, List.setIfInBounds_toArray, List.set_cons_zero, List.set_cons_succ])
    refine' wpAnyH_take (i := 3) (v := _) rfl (by kernel_rfl) (by kernel_rfl) (by kernel_rfl) (fun _ _ _ h => h) (Or.inl ⟨by rfl, ?hy11⟩) (by assumption) ?rest11
    case hy11 =>
      intro w h
      (try clear h)
      go_simp
      (try with_reducible rfl)
    (try simp only [Act.put, List.getElem_toArray, List.getElem_cons_zero, List.getElem_cons_succ, List.setIfInBounds_toArray, List.set_cons_zero, List.set_cons_succ])
    refine' wpAnyH_take (i := 4) (v := _) rfl (by kernel_rfl) (by kernel_rfl) (by kernel_rfl) (fun _ _ _ h => h) (Or.inl ⟨by rfl, ?hy12⟩) (by assumption) ?rest12
    case hy12 =>
      intro w h
      (try clear h)
      go_simp
      (try with_reducible rfl)
    (try simp only [Act.put, List.getElem_toArray, List.getElem_cons_zero, List.getElem_cons_succ, List.setIfInBounds_toArray, List.set_cons_zero, List.set_cons_succ])
    refine' wpAnyH_take (i := 5) (v := _) rfl (by kernel_rfl) (by kernel_rfl) (by kernel_rfl) (fun _ _ _ h => h) (Or.inl ⟨by rfl, ?hy13⟩) (by assumption) ?rest13
    case hy13 =>
      intro w h
      (try clear h)
      go_simp
      (try with_reducible rfl)
    (try simp only [Act.put, List.getElem_toArray, List.getElem_cons_zero, List.getElem_cons_succ, List.setIfInBounds_toArray, List.set_cons_zero, List.set_cons_succ])
    refine wpAnyH_ready (rs := [6]) (by kernel_rfl) (by simp) ?_
    refine AllReadyH.cons rfl (fun K hK => ?_) AllReadyH.nil
    rw [if_pos (by rfl)]
    refine wp_put_row 47 (.tmp 4) (.tmp 21) rfl (w.heap.size) C0 rfl rfl 47 Z R9_r1.out 33 infoPh S0.out SZ.out O0.out w.heap.size w B9.out L1_r1.out ?_
    intro w10 hr hs hb
    have R10_r2 := Lib.hid (hs.row R9_r2.out N2_r2_r1.out)
    have R10_p := Lib.hid (hs.row R9_p.out N4_p_r1.out)
    have R10_q := Lib.hid (hs.row R9_q.out N7_q_r1.out)
    have R10_r1 := Lib.hid hr
    have B10 := Lib.hid hb
    have hHeld := (show _ ∧ _ from ⟨hs.row hHeld.1 N4_p_r1.out, hs.row hHeld.2 N7_q_r1.out⟩)
    clear hr hs hb
    refine hK.out _ _ hHeld (fun hHeld => ?_)
    clear hK K
    (try simp only [Act.put])
    refine wpAnyH_ready (rs := [7]) (by kernel_rfl) (by simp) ?_
    refine AllReadyH.cons rfl (fun K hK => ?_) AllReadyH.nil
    rw [if_pos (by rfl)]
    refine wp_put_row 47 (.tmp 5) (.tmp 22) rfl (w1.heap.size) C1 rfl rfl 47 Z R10_r2.out 33 infoPh S1.out SZ.out O1.out w.heap.size w B10.out L2_r2.out ?_
    intro w11 hr hs hb
    have R11_r1 := Lib.hid (hs.row R10_r1.out N2_r1_r2.out)
    have R11_p := Lib.hid (hs.row R10_p.out N4_p_r2.out)
    have R11_q := Lib.hid (hs.row R10_q.out N7_q_r2.out)
    have R11_r2 := Lib.hid hr
    have B11 := Lib.hid hb
    have hHeld := (show _ ∧ _ from ⟨hs.row hHeld.1 N4_p_r2.out, hs.row hHeld.2 N7_q_r2.out⟩)
    clear hr hs hb
    refine hK.out _ _ hHeld (fun hHeld => ?_)
    clear hK K
    (try simp only [Act.put])
    refine' wpAnyH_take (i := 8) (v := _) rfl (by kernel_rfl) (by kernel_rfl) (by kernel_rfl) (fun _ _ _ h => h) (Or.inl ⟨by rfl, ?hy14⟩) (by assumption) ?rest14
    case hy14 =>
      intro w h
      (try clear h)
      go_simp
      (try with_reducible rfl)
    (try simp only [Act.put, List.getElem_toArray, List.getElem_cons_zero, List.getElem_cons_succ, List.setIfInBounds_toArray, List.set_cons_zero, List.set_cons_succ])
    refine wpAnyH_done (by kernel_rfl) ?_ _
    go_wp2_with fail
    refine bodyPost_ret (v := .tuple #[.agg C0, .agg C1, .bool (true && q)]) ?_ rfl ⟨rfl, B11.out⟩
    exact results_two_cells Try.results43 _ _ (w.heap.size) (w1.heap.size) 47 C0 C1 (0, 0) (0, 0) _ rfl rfl R11_r1.out R11_r2.out Try.underlying47 rfl I0.out I1.out

theorem load_move {ops : Array Oper} {rest : List Oper} {op : Oper} {a : Act} {w : World} {Q : Exit → Act → World → Prop} (hgd : op.guard = none) (x : Operand) (ho : op.op = .load 71 x)
    (g o : Nat) (hx : a.eval x = .pointer (some ⟨g, o, none⟩)) (p q r s : Int) (hc : w.rangeAt g o [.int .i64 p, .int .i64 q, .int .i64 r, .int .i64 s])
    (h : wpList Try.prog ops Q rest (a.put op.dst (.agg #[.int .i64 p, .int .i64 q, .int .i64 r, .int .i64 s])) w) : wpList Try.prog ops Q (op :: rest) a w :=
  wpList_load_mid hgd 71 x ho g o hx [.int .i64 p, .int .i64 q, .int .i64 r, .int .i64 s] _ hc Try.underlying71 rfl infoMv h
theorem range_below {w w' : World} {g o : Nat} {cs : List Value} (h : w.rangeAt g o cs) (hb : Below w.heap.size w w') : w'.rangeAt g o cs := fun j u hj => keepc hb (h j u hj)
end Go.Proofs.Ytcagiecgbjnefab
