/- The program's IsGolay and AreMates. -/
import Derived.Test.YtcpeikkkegpdhabIPs
import Derived.Test.YtcpeikkkegpdhabIAp
namespace Go.Proofs.Ytcpeikkkegpdhab
set_option maxRecDepth 100000
open Go.RowKit

theorem pr_facts (a b : List Int) : isSeq (pL a b) = true ∧ isSeq (pR a b) = true ∧ (pL a b).length = (pR a b).length := by
  cases h : pairOk a b with
  | true =>
    have := pairOk_parts h
    unfold pL pR; rw [h]; exact this
  | false => unfold pL pR; rw [h]; exact ⟨rfl, rfl, rfl⟩
theorem pr_ok (a b : List Int) : decide (1 ≤ (pL a b).length) = goOk a b := by
  unfold pL goOk bothB
  cases h : pairOk a b with
  | true =>
    have h' := h
    unfold pairOk at h
    rw [h, Bool.true_and]; rfl
  | false =>
    unfold pairOk at h
    rw [h]; rfl
theorem pr_yes {a b : List Int} (h : goOk a b = true) : pL a b = a ∧ pR a b = b := by
  have h2 : pairOk a b = true := by
    unfold goOk bothB at h
    rw [Bool.and_eq_true] at h
    exact h.1
  unfold pL pR; rw [h2]; exact ⟨rfl, rfl⟩
theorem pr_golay (a b : List Int) : (decide (1 ≤ (pL a b).length) && goB (pL a b) (pR a b)) = (goOk a b && goB a b) := by
  rw [pr_ok]
  cases h : goOk a b with
  | true => rw [(pr_yes h).1, (pr_yes h).2]
  | false => rfl
set_option maxHeartbeats 2000000 in
theorem areAlike_any (p q r s : List Int) (hp : isSeq p = true) (hr : isSeq r = true) (w : World) :
    Calls Try.prog 21 #[.agg (prC p q), .agg (prC r s)] w (Ret w (.bool (decide (1 ≤ p.length) && decide (p.length = r.length)))) := by
  have HIP := prIsPair_any p q hp
  have HLP := Lib.hid (prLength_any p q hp)
  have HLR := Lib.hid (prLength_any r s hr)
  have IC := Lib.hid (infoPrC p q)
  have ID := Lib.hid (infoPrC r s)
  obtain ⟨C, hC⟩ : ∃ Z, Z = prC p q := ⟨_, rfl⟩
  obtain ⟨D, hD⟩ : ∃ Z, Z = prC r s := ⟨_, rfl⟩
  rw [← hC] at HIP HLP IC ⊢
  rw [← hD] at HLR ID ⊢
  obtain ⟨n, hn⟩ : ∃ n, n = p.length := ⟨_, rfl⟩
  obtain ⟨m, hm⟩ : ∃ n, n = r.length := ⟨_, rfl⟩
  rw [← hn] at HIP HLP ⊢
  rw [← hm] at HLR ⊢
  clear hC hD hn hm hp hr
  cases hd : decide (1 ≤ n) with
  | true =>
    rw [hd] at HIP
    have HIP' := Lib.hid HIP
    clear HIP hd
    have B0 := Lib.hid (Below.refl w.heap.size w)
    go_enter Try.func21, Try.ntmps21
    go_wp2_with (first
      | ((with_reducible refine at_op (Op.box 45 (.tmp 0)) ?_); refine wpList_box_row rfl 45 (.tmp 0) rfl C rfl ?_; intro w1 hr hb hz; have R1_p := Lib.hid hr; have B1 := Lib.hid (joins B0.out hb); have L1_p := Lib.hid (show w.heap.size ≤ w.heap.size from B0.out.size); clear hr hb hz)
      | ((with_reducible refine at_op (Op.box 45 (.tmp 1)) ?_); refine wpList_box_row rfl 45 (.tmp 1) rfl D rfl ?_; intro w2 hr hb hz; have N2_p_q := Lib.hid (Nat.ne_of_lt (row_lt R1_p.out)); have N2_q_p := Lib.hid (Ne.symm N2_p_q.out); have R2_p := Lib.hid (rowB R1_p.out hb); have R2_q := Lib.hid hr; have B2 := Lib.hid (joins B1.out hb); have L2_q := Lib.hid (show w.heap.size ≤ w1.heap.size from B1.out.size); clear hr hb hz))
    refine wp_region_held_drew (S := (fun w' => World.grownBy w2 w' none)) (by kernel_rfl) (grownDrew (World.grownBy.refl _ _)) ?_
    obtain ⟨w3, hdw⟩ : ∃ w', w' = w2.drew := ⟨_, rfl⟩
    rw [← hdw]
    have hb : Below w2.heap.size w2 w3 := by rw [hdw]; exact belowN (Below.refl _ _) 1
    have R3_p := Lib.hid (rowB R2_p.out hb)
    have R3_q := Lib.hid (rowB R2_q.out hb)
    have B3 := Lib.hid (joins B2.out hb)
    clear hdw hb
    intro hHeld
    refine' wpAnyH_take (i := 0) (v := _) rfl (by kernel_rfl) (by kernel_rfl) (by kernel_rfl) (fun _ _ _ h => h) (yieldsPart (by rfl) 45 (.tmp 2) rfl (w.heap.size) 0 rfl C C 45 (0, 0) _ (fun w h => (rowG R2_p.out h (by simp))) (Part.self _) Try.underlying45 rfl IC.out) (by assumption) ?rest5
    (try simp only [Act.put, List.getElem_toArray, List.getElem_cons_zero, List.setIfInBounds_toArray, List.set_cons_zero, List.set_cons_succ])
    refine wpAnyH_ready (rs := [1]) (by kernel_rfl) (by simp) ?_
    refine AllReadyH.cons rfl (fun K hK => ?_) AllReadyH.nil
    go_simp
    refine (HIP'.out _).mono ?_
    rintro e w4 ⟨rfl, hb⟩
    have R4_p := Lib.hid (rowB R3_p.out hb)
    have R4_q := Lib.hid (rowB R3_q.out hb)
    have B4 := Lib.hid (joins B3.out hb)
    have hHeld := grownB hHeld hb
    clear hb
    refine hK.out _ _ hHeld (fun hHeld => ?_)
    clear hK K
    (try simp only [Act.put, List.getElem_toArray, List.getElem_cons_zero, List.getElem_cons_succ, List.setIfInBounds_toArray, List.set_cons_zero, List.set_cons_succ])
    refine' wpAnyH_take (i := 2) (v := _) rfl (by kernel_rfl) (by kernel_rfl) (by kernel_rfl) (fun _ _ _ h => h) (Or.inl ⟨by rfl, ?hy6⟩) (by assumption) ?rest6
    case hy6 =>
      intro w h
      (try clear h)
      go_simp
      (try with_reducible rfl)
    (try simp only [Act.put, List.getElem_toArray, List.getElem_cons_zero, List.getElem_cons_succ, List.setIfInBounds_toArray, List.set_cons_zero, List.set_cons_succ])
    refine' wpAnyH_take (i := 3) (v := _) rfl (by kernel_rfl) (by kernel_rfl) (by kernel_rfl) (fun _ _ _ h => h) (yieldsPart (by rfl) 45 (.tmp 2) rfl (w.heap.size) 0 rfl C C 45 (0, 0) _ (fun w h => (rowG R2_p.out h (by simp))) (Part.self _) Try.underlying45 rfl IC.out) (by assumption) ?rest7
    (try simp only [Act.put, List.getElem_toArray, List.getElem_cons_zero, List.getElem_cons_succ, List.setIfInBounds_toArray, List.set_cons_zero, List.set_cons_succ])
    refine' wpAnyH_take (i := 5) (v := _) rfl (by kernel_rfl) (by kernel_rfl) (by kernel_rfl) (fun _ _ _ h => h) (yieldsPart (by rfl) 45 (.tmp 3) rfl (w1.heap.size) 0 rfl D D 45 (0, 0) _ (fun w h => (rowG R2_q.out h (by simp))) (Part.self _) Try.underlying45 rfl ID.out) (by assumption) ?rest8
    (try simp only [Act.put, List.getElem_toArray, List.getElem_cons_zero, List.getElem_cons_succ, List.setIfInBounds_toArray, List.set_cons_zero, List.set_cons_succ])
    refine wpAnyH_ready (rs := [4]) (by kernel_rfl) (by simp) ?_
    refine AllReadyH.cons rfl (fun K hK => ?_) AllReadyH.nil
    go_simp
    refine (HLP.out _).mono ?_
    rintro e w5 ⟨rfl, hb⟩
    have R5_p := Lib.hid (rowB R4_p.out hb)
    have R5_q := Lib.hid (rowB R4_q.out hb)
    have B5 := Lib.hid (joins B4.out hb)
    have hHeld := grownB hHeld hb
    clear hb
    refine hK.out _ _ hHeld (fun hHeld => ?_)
    clear hK K
    (try simp only [Act.put, List.getElem_toArray, List.getElem_cons_zero, List.getElem_cons_succ, List.setIfInBounds_toArray, List.set_cons_zero, List.set_cons_succ])
    refine wpAnyH_ready (rs := [6]) (by kernel_rfl) (by simp) ?_
    refine AllReadyH.cons rfl (fun K hK => ?_) AllReadyH.nil
    go_simp
    refine (HLR.out _).mono ?_
    rintro e w6 ⟨rfl, hb⟩
    have R6_p := Lib.hid (rowB R5_p.out hb)
    have R6_q := Lib.hid (rowB R5_q.out hb)
    have B6 := Lib.hid (joins B5.out hb)
    have hHeld := grownB hHeld hb
    clear hb
    refine hK.out _ _ hHeld (fun hHeld => ?_)
    clear hK K
    (try simp only [Act.put, List.getElem_toArray, List.getElem_cons_zero, List.getElem_cons_succ, List.setIfInBounds_toArray, List.set_cons_zero, List.set_cons_succ])
    refine' wpAnyH_take (i := 7) (v := _) rfl (by kernel_rfl) (by kernel_rfl) (by kernel_rfl) (fun _ _ _ h => h) (Or.inl ⟨by rfl, ?hy9⟩) (by assumption) ?rest9
    case hy9 =>
      intro w h
      (try clear h)
      go_simp
      (try with_reducible rfl)
    (try simp only [Act.put, List.getElem_toArray, List.getElem_cons_zero, List.getElem_cons_succ, List.setIfInBounds_toArray, List.set_cons_zero, List.set_cons_succ])
    refine' wpAnyH_take (i := 8) (v := _) rfl (by kernel_rfl) (by kernel_rfl) (by kernel_rfl) (fun _ _ _ h => h) (Or.inl ⟨by rfl, ?hy10⟩) (by assumption) ?rest10
    case hy10 =>
      intro w h
      (try clear h)
      go_simp
      (try with_reducible rfl)
    (try simp only [Act.put, List.getElem_toArray, List.getElem_cons_zero, List.getElem_cons_succ, List.setIfInBounds_toArray, List.set_cons_zero, List.set_cons_succ])
    refine' wpAnyH_take (i := 9) (v := _) rfl (by kernel_rfl) (by kernel_rfl) (by kernel_rfl) (fun _ _ _ h => h) (Or.inl ⟨by rfl, ?hy11⟩) (by assumption) ?rest11
    case hy11 =>
      intro w h
      (try clear h)
      go_simp
      (try with_reducible rfl)
    (try simp only [Act.put, List.getElem_toArray, List.getElem_cons_zero, List.getElem_cons_succ, List.setIfInBounds_toArray, List.set_cons_zero, List.set_cons_succ])
    refine wpAnyH_done (by kernel_rfl) ?_ _
    go_wp2_with fail
    go_returns
    exact ⟨ret_bool (by first | (simp; done) | (rw [Bool.eq_iff_iff]; simp; done) | (rw [Bool.eq_iff_iff]; simp; omega)), B6.out⟩
  | false =>
    rw [hd] at HIP
    have HIP' := Lib.hid HIP
    clear HIP hd HLP HLR
    have B0 := Lib.hid (Below.refl w.heap.size w)
    go_enter Try.func21, Try.ntmps21
    go_wp2_with (first
      | ((with_reducible refine at_op (Op.box 45 (.tmp 0)) ?_); refine wpList_box_row rfl 45 (.tmp 0) rfl C rfl ?_; intro w1 hr hb hz; have R1_p := Lib.hid hr; have B1 := Lib.hid (joins B0.out hb); have L1_p := Lib.hid (show w.heap.size ≤ w.heap.size from B0.out.size); clear hr hb hz)
      | ((with_reducible refine at_op (Op.box 45 (.tmp 1)) ?_); refine wpList_box_row rfl 45 (.tmp 1) rfl D rfl ?_; intro w2 hr hb hz; have N2_p_q := Lib.hid (Nat.ne_of_lt (row_lt R1_p.out)); have N2_q_p := Lib.hid (Ne.symm N2_p_q.out); have R2_p := Lib.hid (rowB R1_p.out hb); have R2_q := Lib.hid hr; have B2 := Lib.hid (joins B1.out hb); have L2_q := Lib.hid (show w.heap.size ≤ w1.heap.size from B1.out.size); clear hr hb hz))
    refine wp_region_held_drew (S := (fun w' => World.grownBy w2 w' none)) (by kernel_rfl) (grownDrew (World.grownBy.refl _ _)) ?_
    obtain ⟨w3, hdw⟩ : ∃ w', w' = w2.drew := ⟨_, rfl⟩
    rw [← hdw]
    have hb : Below w2.heap.size w2 w3 := by rw [hdw]; exact belowN (Below.refl _ _) 1
    have R3_p := Lib.hid (rowB R2_p.out hb)
    have R3_q := Lib.hid (rowB R2_q.out hb)
    have B3 := Lib.hid (joins B2.out hb)
    clear hdw hb
    intro hHeld
    refine' wpAnyH_take (i := 0) (v := _) rfl (by kernel_rfl) (by kernel_rfl) (by kernel_rfl) (fun _ _ _ h => h) (yieldsPart (by rfl) 45 (.tmp 2) rfl (w.heap.size) 0 rfl C C 45 (0, 0) _ (fun w h => (rowG R2_p.out h (by simp))) (Part.self _) Try.underlying45 rfl IC.out) (by assumption) ?rest12
    (try simp only [Act.put, List.getElem_toArray, List.getElem_cons_zero, List.setIfInBounds_toArray, List.set_cons_zero, List.set_cons_succ])
    refine wpAnyH_ready (rs := [1]) (by kernel_rfl) (by simp) ?_
    refine AllReadyH.cons rfl (fun K hK => ?_) AllReadyH.nil
    go_simp
    refine (HIP'.out _).mono ?_
    rintro e w4 ⟨rfl, hb⟩
    have R4_p := Lib.hid (rowB R3_p.out hb)
    have R4_q := Lib.hid (rowB R3_q.out hb)
    have B4 := Lib.hid (joins B3.out hb)
    have hHeld := grownB hHeld hb
    clear hb
    refine hK.out _ _ hHeld (fun hHeld => ?_)
    clear hK K
    (try simp only [Act.put, List.getElem_toArray, List.getElem_cons_zero, List.getElem_cons_succ, List.setIfInBounds_toArray, List.set_cons_zero, List.set_cons_succ])
    refine' wpAnyH_take (i := 2) (v := _) rfl (by kernel_rfl) (by kernel_rfl) (by kernel_rfl) (fun _ _ _ h => h) (Or.inl ⟨by rfl, ?hy13⟩) (by assumption) ?rest13
    case hy13 =>
      intro w h
      (try clear h)
      go_simp
      (try with_reducible rfl)
    (try simp only [Act.put, List.getElem_toArray, List.getElem_cons_zero, List.getElem_cons_succ, List.setIfInBounds_toArray, List.set_cons_zero, List.set_cons_succ])
    refine' wpAnyH_take (i := 3) (v := _) rfl (by kernel_rfl) (by kernel_rfl) (by kernel_rfl) (fun _ _ _ h => h) (Or.inr ⟨by rfl, rfl⟩) (by assumption) ?rest14
    (try simp only [Act.put, List.getElem_toArray, List.getElem_cons_zero, List.getElem_cons_succ, List.setIfInBounds_toArray, List.set_cons_zero, List.set_cons_succ])
    refine' wpAnyH_take (i := 4) (v := _) rfl (by kernel_rfl) (by kernel_rfl) (by kernel_rfl) (fun _ _ _ h => h) (Or.inr ⟨by rfl, rfl⟩) (by assumption) ?rest15
    (try simp only [Act.put, List.getElem_toArray, List.getElem_cons_zero, List.getElem_cons_succ, List.setIfInBounds_toArray, List.set_cons_zero, List.set_cons_succ])
    refine' wpAnyH_take (i := 5) (v := _) rfl (by kernel_rfl) (by kernel_rfl) (by kernel_rfl) (fun _ _ _ h => h) (Or.inr ⟨by rfl, rfl⟩) (by assumption) ?rest16
    (try simp only [Act.put, List.getElem_toArray, List.getElem_cons_zero, List.getElem_cons_succ, List.setIfInBounds_toArray, List.set_cons_zero, List.set_cons_succ])
    refine' wpAnyH_take (i := 6) (v := _) rfl (by kernel_rfl) (by kernel_rfl) (by kernel_rfl) (fun _ _ _ h => h) (Or.inr ⟨by rfl, rfl⟩) (by assumption) ?rest17
    (try simp only [Act.put, List.getElem_toArray, List.getElem_cons_zero, List.getElem_cons_succ, List.setIfInBounds_toArray, List.set_cons_zero, List.set_cons_succ])
    refine' wpAnyH_take (i := 7) (v := _) rfl (by kernel_rfl) (by kernel_rfl) (by kernel_rfl) (fun _ _ _ h => h) (Or.inr ⟨by rfl, rfl⟩) (by assumption) ?rest18
    (try simp only [Act.put, List.getElem_toArray, List.getElem_cons_zero, List.getElem_cons_succ, List.setIfInBounds_toArray, List.set_cons_zero, List.set_cons_succ])
    refine' wpAnyH_take (i := 8) (v := _) rfl (by kernel_rfl) (by kernel_rfl) (by kernel_rfl) (fun _ _ _ h => h) (Or.inl ⟨by rfl, ?hy19⟩) (by assumption) ?rest19
    case hy19 =>
      intro w h
      (try clear h)
      go_simp
      (try with_reducible rfl)
    (try simp only [Act.put, List.getElem_toArray, List.getElem_cons_zero, List.getElem_cons_succ, List.setIfInBounds_toArray, List.set_cons_zero, List.set_cons_succ])
    refine' wpAnyH_take (i := 9) (v := _) rfl (by kernel_rfl) (by kernel_rfl) (by kernel_rfl) (fun _ _ _ h => h) (Or.inl ⟨by rfl, ?hy20⟩) (by assumption) ?rest20
    case hy20 =>
      intro w h
      (try clear h)
      go_simp
      (try with_reducible rfl)
    (try simp only [Act.put, List.getElem_toArray, List.getElem_cons_zero, List.getElem_cons_succ, List.setIfInBounds_toArray, List.set_cons_zero, List.set_cons_succ])
    refine wpAnyH_done (by kernel_rfl) ?_ _
    go_wp2_with fail
    go_returns
    exact ⟨rfl, B4.out⟩
end Go.Proofs.Ytcpeikkkegpdhab
