/- The program's AreEquivalent. -/
import Derived.Test.YtcagiecgbjnefabIClV
import Derived.Test.YtcagiecgbjnefabIClK
namespace Go.Proofs.Ytcagiecgbjnefab
set_option maxRecDepth 100000
open Go.RowKit

set_option maxRecDepth 100000 in
set_option maxHeartbeats 4000000 in
theorem iAreEquivalent (v vt : Value) (l t : List Int) (w : World) (hv : IS w v l) (hvt : IS w vt t) (hl : l.length ≤ 1048576) (ht : t.length ≤ 1048576) :
    Calls Try.prog 22 #[v, vt] w (Ret w (.tuple #[.bool (eqF9 l t), .bool (bothR l t)])) := by
  have HB_ := Lib.hid (fun w' (h : Below w.heap.size w w') => bothRanked_any v vt l t w' (hv.below h) (hvt.below h) hl ht)
  have ZZ := Lib.hid zeroPh
  have SZ := Lib.hid (phA_size z32 0 z32_length)
  obtain ⟨Z, hZ⟩ : ∃ Z, Z = phA z32 0 := ⟨_, rfl⟩
  rw [← hZ] at ZZ SZ
  have S0 := Lib.hid (phC_size (rkz l))
  have O0 := Lib.hid (phC_one (rkz l))
  have I0 := Lib.hid (phC_info (rkz l))
  have S1 := Lib.hid (phC_size (rkz t))
  have O1 := Lib.hid (phC_one (rkz t))
  have I1 := Lib.hid (phC_info (rkz t))
  have HC1 := Lib.hid (fun (_ : bothR l t = true) w => classOf_any (rkz l) (rkz_seq l) w)
  have HC2 := Lib.hid (fun (_ : bothR l t = true) w => classOf_any (rkz t) (rkz_seq t) w)
  have HLE := Lib.hid (fun (l : List Int) (h : ranked l = true) (b nn : Nat) (M : DataW Unit) (w : World) (hown : w.ownsMap Try.prog 47 (plainElem (H := Unit) Try.prog 4) b nn M) (hk : KeysAre M (fun s => ∃ i, i < 64 ∧ s = clX i l)) =>
    least_any l.length (ranked_seq h).2 (orL l 64) (fun s hs => ⟨((orL_all l (ranked_seq h).1 64).1 s hs).2, ((orL_all l (ranked_seq h).1 64).1 s hs).1⟩) (orL_all l (ranked_seq h).1 64).2.2 (orL_pos l 63) (by have := orL_len l 64; omega) b nn M w hown (hk.same (fun s => ((orL_all l (ranked_seq h).1 64).2.1 s).symm)))
  have HR := fun (h : bothR l t = true) => Bool.and_eq_true_iff.1 (show (ranked l && ranked t) = true from h)
  have HZ1 := fun (h : bothR l t = true) => rkz_yes (HR h).1
  have HZ2 := fun (h : bothR l t = true) => rkz_yes (HR h).2
  obtain ⟨C0, h0⟩ : ∃ C, C = phC (rkz l) := ⟨_, rfl⟩
  rw [← h0] at S0 O0 I0 HB_ HC1
  obtain ⟨C1, h1⟩ : ∃ C, C = phC (rkz t) := ⟨_, rfl⟩
  rw [← h1] at S1 O1 I1 HB_ HC2
  unfold eqF9
  cases hr : bothR l t with
  | false =>
    rw [hr] at HB_
    rw [Bool.false_and]
    clear hZ h0 h1 hr hv hvt hl ht HC1 HC2 HLE HR HZ1 HZ2
    have B0 := Lib.hid (Below.refl w.heap.size w)
    go_enter Try.func22, Try.ntmps22
    go_wp2_with fail
    refine (HB_.out _ B0.out).mono ?_
    rintro e w1 ⟨rfl, hb⟩
    have B1 := Lib.hid (joins B0.out hb)
    clear hb
    go_wp2_with (first
      | ((with_reducible refine at_op (d := some 6) (Op.alloc 47) ?_); refine wpList_alloc_row rfl 47 rfl Z ZZ.out ?_; intro w2 hr hb hz; have R2_p := Lib.hid hr; have L2_p := Lib.hid (show w1.heap.size ≤ w1.heap.size from Nat.le_refl _); have D2 := Lib.hid (hb); clear hr hb hz)
      | ((with_reducible refine at_op (d := some 7) (Op.alloc 47) ?_); refine wpList_alloc_row rfl 47 rfl Z ZZ.out ?_; intro w3 hr hb hz; have N3_p := Lib.hid (Nat.ne_of_lt (row_lt R2_p.out)); have M3_p := Lib.hid (Ne.symm N3_p.out); have R3_p := Lib.hid (rowB R2_p.out hb); have R3_q := Lib.hid hr; have L3_q := Lib.hid (show w1.heap.size ≤ w2.heap.size from D2.out.size); have D3 := Lib.hid (joins D2.out hb); clear hr hb hz)
      | ((with_reducible refine at_op (Op.store 47 (.tmp 6) (.tmp 13)) ?_); refine wpList_put_row rfl 47 (.tmp 6) (.tmp 13) rfl (w1.heap.size) C0 rfl rfl 47 Z R3_p.out 33 infoPh S0.out SZ.out O0.out w1.heap.size w1 D3.out L2_p.out ?_; intro w4 hr hs hb; have R4_q := Lib.hid (hs.row R3_q.out M3_p.out); have R4_p := Lib.hid hr; have D4 := Lib.hid hb; clear hr hs hb)
      | ((with_reducible refine at_op (Op.store 47 (.tmp 7) (.tmp 14)) ?_); refine wpList_put_row rfl 47 (.tmp 7) (.tmp 14) rfl (w2.heap.size) C1 rfl rfl 47 Z R4_q.out 33 infoPh S1.out SZ.out O1.out w1.heap.size w1 D4.out L3_q.out ?_; intro w5 hr hs hb; have R5_p := Lib.hid (hs.row R4_p.out N3_p.out); have R5_q := Lib.hid hr; have B5 := Lib.hid (joins B1.out hb); have L5_p := Lib.hid (Nat.le_trans B1.out.size L2_p.out); have L5_q := Lib.hid (Nat.le_trans B1.out.size L3_q.out); clear hr hs hb))
    go_returns
    exact ⟨rfl, B5.out⟩
  | true =>
    rw [hr] at HB_
    have hlen1 := (least_in l (ranked_seq (HR hr).1).1)
    have hlen2 := (least_in t (ranked_seq (HR hr).2).1)
    have HE := Lib.hid (fun w => eql_ph hlen1.1 hlen2.1 w)
    have HL1 := Lib.hid (HLE.out l (HR hr).1)
    have HL2 := Lib.hid (HLE.out t (HR hr).2)
    have HC1 := Lib.hid (HC1.out hr)
    have HC2 := Lib.hid (HC2.out hr)
    rw [HZ1 hr] at HC1
    rw [HZ2 hr] at HC2
    have e0 : (decide (l.length = t.length) && decide ((orL l 64).getD 0 [] = (orL t 64).getD 0 [])) = decide ((orL l 64).getD 0 [] = (orL t 64).getD 0 []) := by
      by_cases e : (orL l 64).getD 0 [] = (orL t 64).getD 0 []
      · have := hlen1.2; rw [e, hlen2.2] at this; rw [decide_eq_true this.symm, Bool.true_and]
      · rw [decide_eq_false e, Bool.and_false]
    rw [Bool.true_and, e0]
    obtain ⟨D1, hD1⟩ : ∃ D, D = phC ((orL l 64).getD 0 []) := ⟨_, rfl⟩
    rw [← hD1] at HE HL1
    obtain ⟨D2, hD2⟩ : ∃ D, D = phC ((orL t 64).getD 0 []) := ⟨_, rfl⟩
    rw [← hD2] at HE HL2
    obtain ⟨r, hrr⟩ : ∃ r, r = decide ((orL l 64).getD 0 [] = (orL t 64).getD 0 []) := ⟨_, rfl⟩
    rw [← hrr] at HE ⊢
    clear hZ h0 h1 hr hv hvt hl ht HLE HR HZ1 HZ2 hlen1 hlen2 e0 hD1 hD2 hrr
    have B0 := Lib.hid (Below.refl w.heap.size w)
    go_enter Try.func22, Try.ntmps22
    go_wp2_with fail
    refine (HB_.out _ B0.out).mono ?_
    rintro e w1 ⟨rfl, hb⟩
    have B1 := Lib.hid (joins B0.out hb)
    clear hb
    go_wp2_with (first
      | ((with_reducible refine at_op (d := some 6) (Op.alloc 47) ?_); refine wpList_alloc_row rfl 47 rfl Z ZZ.out ?_; intro w2 hr hb hz; have R2_p := Lib.hid hr; have L2_p := Lib.hid (show w1.heap.size ≤ w1.heap.size from Nat.le_refl _); have D2 := Lib.hid (hb); clear hr hb hz)
      | ((with_reducible refine at_op (d := some 7) (Op.alloc 47) ?_); refine wpList_alloc_row rfl 47 rfl Z ZZ.out ?_; intro w3 hr hb hz; have N3_p := Lib.hid (Nat.ne_of_lt (row_lt R2_p.out)); have M3_p := Lib.hid (Ne.symm N3_p.out); have R3_p := Lib.hid (rowB R2_p.out hb); have R3_q := Lib.hid hr; have L3_q := Lib.hid (show w1.heap.size ≤ w2.heap.size from D2.out.size); have D3 := Lib.hid (joins D2.out hb); clear hr hb hz)
      | ((with_reducible refine at_op (Op.store 47 (.tmp 6) (.tmp 13)) ?_); refine wpList_put_row rfl 47 (.tmp 6) (.tmp 13) rfl (w1.heap.size) C0 rfl rfl 47 Z R3_p.out 33 infoPh S0.out SZ.out O0.out w1.heap.size w1 D3.out L2_p.out ?_; intro w4 hr hs hb; have R4_q := Lib.hid (hs.row R3_q.out M3_p.out); have R4_p := Lib.hid hr; have D4 := Lib.hid hb; clear hr hs hb)
      | ((with_reducible refine at_op (Op.store 47 (.tmp 7) (.tmp 14)) ?_); refine wpList_put_row rfl 47 (.tmp 7) (.tmp 14) rfl (w2.heap.size) C1 rfl rfl 47 Z R4_q.out 33 infoPh S1.out SZ.out O1.out w1.heap.size w1 D4.out L3_q.out ?_; intro w5 hr hs hb; have R5_p := Lib.hid (hs.row R4_p.out N3_p.out); have R5_q := Lib.hid hr; have B5 := Lib.hid (joins B1.out hb); have L5_p := Lib.hid (Nat.le_trans B1.out.size L2_p.out); have L5_q := Lib.hid (Nat.le_trans B1.out.size L3_q.out); clear hr hs hb))
    go_wp2_with fail
    refine wp_region_held_drew (S := (fun w' => World.grownBy w5 w' none)) (by kernel_rfl) (grownDrew (World.grownBy.refl _ _)) ?_
    obtain ⟨w6, hdw⟩ : ∃ w', w' = w5.drew := ⟨_, rfl⟩
    rw [← hdw]
    have hb : Below w5.heap.size w5 w6 := by rw [hdw]; exact belowN (Below.refl _ _) 1
    have R6_p := Lib.hid (rowB R5_p.out hb)
    have R6_q := Lib.hid (rowB R5_q.out hb)
    have B6 := Lib.hid (joins B5.out hb)
    clear hdw hb
    intro hHeld
    refine' wpAnyH_take (i := 0) (v := _) rfl (by kernel_rfl) (by kernel_rfl) (by kernel_rfl) (fun _ _ _ h => h) (yieldsPart (by rfl) 47 (.tmp 6) rfl (w1.heap.size) 0 rfl C0 C0 47 (0, 0) _ (fun w h => (rowG R5_p.out h (by simp))) (Part.self _) Try.underlying47 rfl I0.out) (by assumption) ?rest1
    (try simp only [Act.put, List.getElem_toArray, List.getElem_cons_zero, List.setIfInBounds_toArray, List.set_cons_zero, List.set_cons_succ])
    refine' wpAnyH_take (i := 3) (v := _) rfl (by kernel_rfl) (by kernel_rfl) (by kernel_rfl) (fun _ _ _ h => h) (yieldsPart (by rfl) 47 (.tmp 7) rfl (w2.heap.size) 0 rfl C1 C1 47 (0, 0) _ (fun w h => (rowG R5_q.out h (by simp))) (Part.self _) Try.underlying47 rfl I1.out) (by assumption) ?rest2
    (try simp only [Act.put, List.getElem_toArray, List.getElem_cons_zero, List.getElem_cons_succ, List.setIfInBounds_toArray, List.set_cons_zero, List.set_cons_succ])
    refine wpAnyH_ready (rs := [1]) (by kernel_rfl) (by simp) ?_
    refine AllReadyH.cons rfl (fun K hK => ?_) AllReadyH.nil
    go_simp
    refine (HC1.out _).mono ?_
    rintro e w7 ⟨b1, M1, rfl, hbn, hmo, hmk, hb⟩
    have R7_p := Lib.hid (rowB R6_p.out hb)
    have R7_q := Lib.hid (rowB R6_q.out hb)
    have B7 := Lib.hid (joins B6.out hb)
    have MO1 := Lib.hid hmo
    have MK1 := Lib.hid hmk
    have hHeld := grownB hHeld hb
    clear hbn hmo hmk hb
    refine hK.out _ _ hHeld (fun hHeld => ?_)
    clear hK K
    (try simp only [Act.put, List.getElem_toArray, List.getElem_cons_zero, List.getElem_cons_succ, List.setIfInBounds_toArray, List.set_cons_zero, List.set_cons_succ])
    refine wpAnyH_ready (rs := [2]) (by kernel_rfl) (by simp) ?_
    refine AllReadyH.cons rfl (fun K hK => ?_) AllReadyH.nil
    go_simp
    refine (HL1.out b1 64 M1 _ MO1.out MK1.out).mono ?_
    rintro e w8 ⟨rfl, hb⟩
    have R8_p := Lib.hid (rowB R7_p.out hb)
    have R8_q := Lib.hid (rowB R7_q.out hb)
    have B8 := Lib.hid (joins B7.out hb)
    have hHeld := grownB hHeld hb
    clear hb
    refine hK.out _ _ hHeld (fun hHeld => ?_)
    clear hK K
    (try simp only [Act.put, List.getElem_toArray, List.getElem_cons_zero, List.getElem_cons_succ, List.setIfInBounds_toArray, List.set_cons_zero, List.set_cons_succ])
    refine wpAnyH_ready (rs := [4]) (by kernel_rfl) (by simp) ?_
    refine AllReadyH.cons rfl (fun K hK => ?_) AllReadyH.nil
    go_simp
    refine (HC2.out _).mono ?_
    rintro e w9 ⟨b2, M2, rfl, hbn, hmo, hmk, hb⟩
    have R9_p := Lib.hid (rowB R8_p.out hb)
    have R9_q := Lib.hid (rowB R8_q.out hb)
    have B9 := Lib.hid (joins B8.out hb)
    have MO2 := Lib.hid hmo
    have MK2 := Lib.hid hmk
    have hHeld := grownB hHeld hb
    clear hbn hmo hmk hb
    refine hK.out _ _ hHeld (fun hHeld => ?_)
    clear hK K
    (try simp only [Act.put, List.getElem_toArray, List.getElem_cons_zero, List.getElem_cons_succ, List.setIfInBounds_toArray, List.set_cons_zero, List.set_cons_succ])
    refine wpAnyH_ready (rs := [5]) (by kernel_rfl) (by simp) ?_
    refine AllReadyH.cons rfl (fun K hK => ?_) AllReadyH.nil
    go_simp
    refine (HL2.out b2 64 M2 _ MO2.out MK2.out).mono ?_
    rintro e w10 ⟨rfl, hb⟩
    have R10_p := Lib.hid (rowB R9_p.out hb)
    have R10_q := Lib.hid (rowB R9_q.out hb)
    have B10 := Lib.hid (joins B9.out hb)
    have hHeld := grownB hHeld hb
    clear hb
    refine hK.out _ _ hHeld (fun hHeld => ?_)
    clear hK K
    (try simp only [Act.put, List.getElem_toArray, List.getElem_cons_zero, List.getElem_cons_succ, List.setIfInBounds_toArray, List.set_cons_zero, List.set_cons_succ])
    refine wpAnyH_ready (rs := [6]) (by kernel_rfl) (by simp) ?_
    refine AllReadyH.cons rfl (fun K hK => ?_) AllReadyH.nil
    refine step_eql rfl 47 47 (.tmp 20) (.tmp 23) rfl (by kernel_rfl) _ _ _ rfl rfl (HE.out _) ?_
    refine hK.out _ _ hHeld (fun hHeld => ?_)
    clear hK K
    (try simp only [Act.put, List.getElem_toArray, List.getElem_cons_zero, List.getElem_cons_succ, List.setIfInBounds_toArray, List.set_cons_zero, List.set_cons_succ])
    refine' wpAnyH_take (i := 7) (v := _) rfl (by kernel_rfl) (by kernel_rfl) (by kernel_rfl) (fun _ _ _ h => h) (Or.inl ⟨by rfl, ?hy3⟩) (by assumption) ?rest3
    case hy3 =>
      intro w h
      (try clear h)
      go_simp
      (try with_reducible rfl)
    (try simp only [Act.put, List.getElem_toArray, List.getElem_cons_zero, List.getElem_cons_succ, List.setIfInBounds_toArray, List.set_cons_zero, List.set_cons_succ])
    refine' wpAnyH_take (i := 8) (v := _) rfl (by kernel_rfl) (by kernel_rfl) (by kernel_rfl) (fun _ _ _ h => h) (Or.inl ⟨by rfl, ?hy4⟩) (by assumption) ?rest4
    case hy4 =>
      intro w h
      (try clear h)
      go_simp
      (try with_reducible rfl)
    (try simp only [Act.put, List.getElem_toArray, List.getElem_cons_zero, List.getElem_cons_succ, List.setIfInBounds_toArray, List.set_cons_zero, List.set_cons_succ])
    refine wpAnyH_done (by kernel_rfl) ?_ _
    go_wp2_with fail
    go_returns
    exact ⟨rfl, B10.out⟩
end Go.Proofs.Ytcagiecgbjnefab
