/- The model's moves: clMove, clGood, clApply, IsMove, ApplyMove, MoveBack. -/
import Derived.Test.YtcagiecgbjnefabClM
import Derived.Test.YtcagiecgbjnefabSMov
import Derived.Test.YtcagiecgbjnefabRg
namespace Go.Proofs.Ytcagiecgbjnefab
set_option maxRecDepth 100000
open Go.RowKit

theorem slice_mA (g off cap : Nat) (h : 4 ≤ cap) (w : World) : (Instr.sliceAt 22 (.slice (some ⟨g, off, none⟩) 4 cap) (some (.int .i64 2)) none none).run Try.prog w = .ok (.slice (some ⟨g, off + 2, none⟩) 2 (cap - 2)) w := by
  have hu : Try.prog.underlying 22 = some (.slice (Try.prog.elem 22)) := by rw [show Try.prog.elem 22 = 3 by kernel_rfl]; exact Try.underlying22
  have hsz : (sizeOf (Try.prog.elem 22)).run Try.prog w = .ok 1 w := by rw [show Try.prog.elem 22 = 3 by kernel_rfl]; simp [go_sem]
  rw [run_sliceAt_slice w _ _ _ _ _ hu, run_slice_l w _ _ _ _ hu _ _ (by omega) (by omega), hsz, Result.andThen_ok]
  unfold sliced
  have h2 : ¬ (cap = (2 : Int).toNat) := by have : (2 : Int).toNat = 2 := rfl; omega
  simp [Addr.add_lit]
  omega
theorem slice_mB (g off cap : Nat) (h : 4 ≤ cap) (w : World) : (Instr.sliceAt 22 (.slice (some ⟨g, off, none⟩) 4 cap) none (some (.int .i64 2)) none).run Try.prog w = .ok (.slice (some ⟨g, off, none⟩) 2 cap) w := by
  have hu : Try.prog.underlying 22 = some (.slice (Try.prog.elem 22)) := by rw [show Try.prog.elem 22 = 3 by kernel_rfl]; exact Try.underlying22
  have hsz : (sizeOf (Try.prog.elem 22)).run Try.prog w = .ok 1 w := by rw [show Try.prog.elem 22 = 3 by kernel_rfl]; simp [go_sem]
  rw [run_sliceAt_slice w _ _ _ _ _ hu, run_slice_h w _ _ _ _ hu _ _ (by omega) (by omega), hsz, Result.andThen_ok]
  unfold sliced
  simp [Addr.add_lit]
theorem IS.four9 {w : World} {v : Value} {a b c d : Int} (h : IS w v [a, b, c, d]) : ∃ g off cap, v = .slice (some ⟨g, off, none⟩) 4 cap ∧ w.cell? ⟨g, off, none⟩ = some (.int .i64 a) ∧ w.cell? ⟨g, off + 1, none⟩ = some (.int .i64 b) ∧ w.cell? ⟨g, off + 2, none⟩ = some (.int .i64 c) ∧ w.cell? ⟨g, off + 3, none⟩ = some (.int .i64 d) := by
  rcases h with ⟨h, _⟩ | ⟨_, g, off, cap, rfl, _, hc⟩
  · cases h
  · exact ⟨g, off, cap, rfl, hc 0 (by simp), hc 1 (by simp), hc 2 (by simp), hc 3 (by simp)⟩
set_option maxHeartbeats 1000000 in
theorem clGood_any (v : Value) (l : List Int) (w : World) (hv : IS w v l) (hl : l.length ≤ 1048576) : Calls Try.prog 33 #[v] w (Ret w (.bool (ranked l))) := by
  have HI := Lib.hid (phIs_any v l w hv hl)
  obtain ⟨a0, cap, rfl⟩ := hv.shape
  unfold ranked
  obtain ⟨b, hb_⟩ : ∃ b, b = isSeq l := ⟨_, rfl⟩
  obtain ⟨n, hn⟩ : ∃ n, n = l.length := ⟨_, rfl⟩
  rw [← hb_, ← hn] at HI ⊢
  rw [← hn] at hl
  have hd : (decide ((n : Int) ≤ 15)) = decide (n ≤ 15) := by simp only [decide_eq_decide]; omega
  clear hv hb_ hn
  cases b
  · go_enter Try.func33, Try.ntmps33
    go_wp2_with fail
    refine HI.out.mono ?_
    rintro e w1 ⟨rfl, hb⟩
    have B1 := Lib.hid hb
    clear hb
    go_wp2_with fail
    go_returns
    exact ⟨rfl, B1.out⟩
  · go_enter Try.func33, Try.ntmps33
    go_wp2_with fail
    refine HI.out.mono ?_
    rintro e w1 ⟨rfl, hb⟩
    have B1 := Lib.hid hb
    clear hb
    go_wp2_with fail
    go_returns
    exact ⟨ret_bool (by first | rfl | (rw [Bool.true_and, ← hd]) | (simp; omega)), B1.out⟩

set_option maxRecDepth 100000 in
set_option maxHeartbeats 2000000 in
theorem clApply_any (v vm : Value) (l m : List Int) (w : World) (hv : IS w v l) (hvm : IS w vm m) (hok : clOk m = true) (hl : isSeq l = true) : Calls Try.prog 61 #[v, vm] w (Makes w (clWith (fun a b c d => clT a b c d l) m)) := by
  obtain ⟨a, b, c, d, rfl, ⟨ha1, ha2⟩, ⟨hb1, hb2⟩, hc, hd⟩ := clOk_four hok
  obtain ⟨g, off, cap, rfl, c0, c1, c2, c3⟩ := hvm.four9
  have C0 := Lib.hid c0
  have C1 := Lib.hid c1
  have C2 := Lib.hid c2
  have C3 := Lib.hid c3
  have HV := Lib.hid hv
  have B0 := Lib.hid (Below.refl w.heap.size w)
  clear c0 c1 c2 c3 hv hvm hok
  show Calls _ _ _ _ (Makes w (clT a b c d l))
  rcases (show c = 0 ∨ c = 1 by omega) with rfl | rfl <;> rcases (show d = 0 ∨ d = 1 by omega) with rfl | rfl
  · show Calls _ _ _ _ (Makes w (turnG (climbG (l) b) a))
    have HE := Lib.hid (fun v w (h : IS w v (l)) => phClimb_any v (l) b w h hl hb1 hb2)
    have HT := Lib.hid (fun v w (h : IS w v (climbG (l) b)) => phTurn_any v (climbG (l) b) a w h (climb_seq _ _ hl) (by omega) (by omega))
    obtain ⟨L3, h_L3⟩ : ∃ x, x = climbG l b := ⟨_, rfl⟩
    rw [← h_L3] at HE HT ⊢
    obtain ⟨L4, h_L4⟩ : ∃ x, x = turnG L3 a := ⟨_, rfl⟩
    rw [← h_L4] at HT ⊢
    clear hl ha1 ha2 hb1 hb2 hc hd h_L3 h_L4
    have c2 := C2.out
    have c3 := C3.out
    go_enter Try.func61, Try.ntmps61
    go_wp2_with fail
    have V_ := Lib.hid (HV.out)
    refine wp_region_held_drew (S := (fun w' => World.grownBy w w' none)) (by kernel_rfl) (grownDrew (World.grownBy.refl _ _)) ?_
    obtain ⟨d1, hdw⟩ : ∃ w', w' = w.drew := ⟨_, rfl⟩
    rw [← hdw]
    have hb : Below w.heap.size w d1 := by rw [hdw]; exact belowN (Below.refl _ _) 1
    have F1_V := Lib.hid (V_.out.below hb)
    have F1_B := Lib.hid (joins B0.out hb)
    clear hdw hb
    intro hHeld
    refine' wpAnyH_take (i := 0) (v := _) rfl (by kernel_rfl) (by kernel_rfl) (by kernel_rfl) (fun _ _ _ h => h) (Or.inl ⟨by rfl, ?hy1⟩) (by assumption) ?rest1
    case hy1 =>
      intro w h
      (try clear h)
      go_simp
      (try with_reducible rfl)
    (try simp only [Act.put, List.getElem_toArray, List.getElem_cons_zero, List.setIfInBounds_toArray, List.set_cons_zero, List.set_cons_succ])
    refine' wpAnyH_take (i := 1) (v := _) rfl (by kernel_rfl) (by kernel_rfl) (by kernel_rfl) (fun _ _ _ h => h) (Or.inl ⟨by rfl, ?hy2⟩) (by assumption) ?rest2
    case hy2 =>
      intro w h
      (try clear h)
      go_simp
      (try with_reducible rfl)
    (try simp only [Act.put, List.getElem_toArray, List.getElem_cons_zero, List.getElem_cons_succ, List.setIfInBounds_toArray, List.set_cons_zero, List.set_cons_succ])
    refine' wpAnyH_take (i := 2) (v := _) rfl (by kernel_rfl) (by kernel_rfl) (by kernel_rfl) (fun _ _ _ h => h) (Or.inl ⟨by rfl, ?hy3⟩) (by assumption) ?rest3
    case hy3 =>
      intro w h
      have c_ := cellR h (keepc B0.out C1.out) (by simp)
      (try clear h)
      go_simp
      (try with_reducible rfl)
    (try simp only [Act.put, List.getElem_toArray, List.getElem_cons_zero, List.getElem_cons_succ, List.setIfInBounds_toArray, List.set_cons_zero, List.set_cons_succ])
    refine' wpAnyH_take (i := 3) (v := _) rfl (by kernel_rfl) (by kernel_rfl) (by kernel_rfl) (fun _ _ _ h => h) (Or.inl ⟨by rfl, ?hy4⟩) (by assumption) ?rest4
    case hy4 =>
      intro w h
      have c_ := cellR h (keepc B0.out C1.out) (by simp)
      (try clear h)
      go_simp
      (try with_reducible rfl)
    (try simp only [Act.put, List.getElem_toArray, List.getElem_cons_zero, List.getElem_cons_succ, List.setIfInBounds_toArray, List.set_cons_zero, List.set_cons_succ])
    refine' wpAnyH_take (i := 5) (v := _) rfl (by kernel_rfl) (by kernel_rfl) (by kernel_rfl) (fun _ _ _ h => h) (Or.inl ⟨by rfl, ?hy5⟩) (by assumption) ?rest5
    case hy5 =>
      intro w h
      (try clear h)
      go_simp
      (try with_reducible rfl)
    (try simp only [Act.put, List.getElem_toArray, List.getElem_cons_zero, List.getElem_cons_succ, List.setIfInBounds_toArray, List.set_cons_zero, List.set_cons_succ])
    refine' wpAnyH_take (i := 6) (v := _) rfl (by kernel_rfl) (by kernel_rfl) (by kernel_rfl) (fun _ _ _ h => h) (Or.inl ⟨by rfl, ?hy6⟩) (by assumption) ?rest6
    case hy6 =>
      intro w h
      (try clear h)
      go_simp
      (try with_reducible rfl)
    (try simp only [Act.put, List.getElem_toArray, List.getElem_cons_zero, List.getElem_cons_succ, List.setIfInBounds_toArray, List.set_cons_zero, List.set_cons_succ])
    refine' wpAnyH_take (i := 7) (v := _) rfl (by kernel_rfl) (by kernel_rfl) (by kernel_rfl) (fun _ _ _ h => h) (Or.inl ⟨by rfl, ?hy7⟩) (by assumption) ?rest7
    case hy7 =>
      intro w h
      have c_ := cellR h (keepc B0.out C0.out) (by simp)
      (try clear h)
      go_simp
      (try with_reducible rfl)
    (try simp only [Act.put, List.getElem_toArray, List.getElem_cons_zero, List.getElem_cons_succ, List.setIfInBounds_toArray, List.set_cons_zero, List.set_cons_succ])
    refine wpAnyH_ready (rs := [4]) (by kernel_rfl) (by simp) ?_
    refine AllReadyH.cons rfl (fun K hK => ?_) AllReadyH.nil
    go_simp
    refine (HE.out _ _ F1_V.out).mono ?_
    rintro e d2 ⟨t1, rfl, ho, hb⟩
    have F2_V := Lib.hid (F1_V.out.below hb)
    have F2_B := Lib.hid (joins F1_B.out hb)
    have F2_X := Lib.hid ho
    have hHeld := grownB hHeld hb
    clear ho hb
    refine hK.out _ _ hHeld (fun hHeld => ?_)
    clear hK K
    (try simp only [Act.put, List.getElem_toArray, List.getElem_cons_zero, List.getElem_cons_succ, List.setIfInBounds_toArray, List.set_cons_zero, List.set_cons_succ])
    refine wpAnyH_ready (rs := [8]) (by kernel_rfl) (by simp) ?_
    refine AllReadyH.cons rfl (fun K hK => ?_) AllReadyH.nil
    have LW_ := Lib.hid (show w.heap.size ≤ d2.heap.size from F2_B.out.size)
    go_simp
    refine (HT.out _ _ F2_X.out.is).mono ?_
    rintro e d3 ⟨t2, rfl, ho, hb⟩
    have F3_V := Lib.hid (F2_V.out.below hb)
    have F3_B := Lib.hid (joins F2_B.out hb)
    have F3_X := Lib.hid (F2_X.out.below hb)
    have F3_Y := Lib.hid ho
    have hHeld := grownB hHeld hb
    clear ho hb
    refine hK.out _ _ hHeld (fun hHeld => ?_)
    clear hK K
    (try simp only [Act.put, List.getElem_toArray, List.getElem_cons_zero, List.getElem_cons_succ, List.setIfInBounds_toArray, List.set_cons_zero, List.set_cons_succ])
    refine' wpAnyH_take (i := 9) (v := _) rfl (by kernel_rfl) (by kernel_rfl) (by kernel_rfl) (fun _ _ _ h => h) (Or.inl ⟨by rfl, ?hy8⟩) (by assumption) ?rest8
    case hy8 =>
      intro w h
      (try clear h)
      go_simp
      (try with_reducible rfl)
    (try simp only [Act.put, List.getElem_toArray, List.getElem_cons_zero, List.getElem_cons_succ, List.setIfInBounds_toArray, List.set_cons_zero, List.set_cons_succ])
    refine wpAnyH_done (by kernel_rfl) ?_ _
    go_wp2_with fail
    go_returns
    exact ⟨_, rfl, F3_Y.out.mono LW_.out, F3_B.out⟩
  · show Calls _ _ _ _ (Makes w (turnG (climbG (backG (l)) b) a))
    have HD := Lib.hid (fun v w (h : IS w v (l)) => phBack_any v (l) w h hl)
    have HE := Lib.hid (fun v w (h : IS w v (backG (l))) => phClimb_any v (backG (l)) b w h (backG_seq _ hl) hb1 hb2)
    have HT := Lib.hid (fun v w (h : IS w v (climbG (backG (l)) b)) => phTurn_any v (climbG (backG (l)) b) a w h (climb_seq _ _ (backG_seq _ hl)) (by omega) (by omega))
    obtain ⟨L2, h_L2⟩ : ∃ x, x = backG l := ⟨_, rfl⟩
    rw [← h_L2] at HD HE HT ⊢
    obtain ⟨L3, h_L3⟩ : ∃ x, x = climbG L2 b := ⟨_, rfl⟩
    rw [← h_L3] at HE HT ⊢
    obtain ⟨L4, h_L4⟩ : ∃ x, x = turnG L3 a := ⟨_, rfl⟩
    rw [← h_L4] at HT ⊢
    clear hl ha1 ha2 hb1 hb2 hc hd h_L2 h_L3 h_L4
    have c2 := C2.out
    have c3 := C3.out
    go_enter Try.func61, Try.ntmps61
    go_wp2_with fail
    refine (HD.out _ _ HV.out).mono ?_
    rintro e w2 ⟨s2, rfl, ho, hb⟩
    have O2 := Lib.hid ho
    have B2 := Lib.hid (joins B0.out hb)
    clear ho hb
    go_wp2_with fail
    have V_ := Lib.hid (O2.out.is)
    refine wp_region_held_drew (S := (fun w' => World.grownBy w2 w' none)) (by kernel_rfl) (grownDrew (World.grownBy.refl _ _)) ?_
    obtain ⟨d1, hdw⟩ : ∃ w', w' = w2.drew := ⟨_, rfl⟩
    rw [← hdw]
    have hb : Below w2.heap.size w2 d1 := by rw [hdw]; exact belowN (Below.refl _ _) 1
    have F1_V := Lib.hid (V_.out.below hb)
    have F1_B := Lib.hid (joins B2.out hb)
    clear hdw hb
    intro hHeld
    refine' wpAnyH_take (i := 0) (v := _) rfl (by kernel_rfl) (by kernel_rfl) (by kernel_rfl) (fun _ _ _ h => h) (Or.inl ⟨by rfl, ?hy1001⟩) (by assumption) ?rest1001
    case hy1001 =>
      intro w h
      (try clear h)
      go_simp
      (try with_reducible rfl)
    (try simp only [Act.put, List.getElem_toArray, List.getElem_cons_zero, List.setIfInBounds_toArray, List.set_cons_zero, List.set_cons_succ])
    refine' wpAnyH_take (i := 1) (v := _) rfl (by kernel_rfl) (by kernel_rfl) (by kernel_rfl) (fun _ _ _ h => h) (Or.inl ⟨by rfl, ?hy1002⟩) (by assumption) ?rest1002
    case hy1002 =>
      intro w h
      (try clear h)
      go_simp
      (try with_reducible rfl)
    (try simp only [Act.put, List.getElem_toArray, List.getElem_cons_zero, List.getElem_cons_succ, List.setIfInBounds_toArray, List.set_cons_zero, List.set_cons_succ])
    refine' wpAnyH_take (i := 2) (v := _) rfl (by kernel_rfl) (by kernel_rfl) (by kernel_rfl) (fun _ _ _ h => h) (Or.inl ⟨by rfl, ?hy1003⟩) (by assumption) ?rest1003
    case hy1003 =>
      intro w h
      have c_ := cellR h (keepc B2.out C1.out) (by simp)
      (try clear h)
      go_simp
      (try with_reducible rfl)
    (try simp only [Act.put, List.getElem_toArray, List.getElem_cons_zero, List.getElem_cons_succ, List.setIfInBounds_toArray, List.set_cons_zero, List.set_cons_succ])
    refine' wpAnyH_take (i := 3) (v := _) rfl (by kernel_rfl) (by kernel_rfl) (by kernel_rfl) (fun _ _ _ h => h) (Or.inl ⟨by rfl, ?hy1004⟩) (by assumption) ?rest1004
    case hy1004 =>
      intro w h
      have c_ := cellR h (keepc B2.out C1.out) (by simp)
      (try clear h)
      go_simp
      (try with_reducible rfl)
    (try simp only [Act.put, List.getElem_toArray, List.getElem_cons_zero, List.getElem_cons_succ, List.setIfInBounds_toArray, List.set_cons_zero, List.set_cons_succ])
    refine' wpAnyH_take (i := 5) (v := _) rfl (by kernel_rfl) (by kernel_rfl) (by kernel_rfl) (fun _ _ _ h => h) (Or.inl ⟨by rfl, ?hy1005⟩) (by assumption) ?rest1005
    case hy1005 =>
      intro w h
      (try clear h)
      go_simp
      (try with_reducible rfl)
    (try simp only [Act.put, List.getElem_toArray, List.getElem_cons_zero, List.getElem_cons_succ, List.setIfInBounds_toArray, List.set_cons_zero, List.set_cons_succ])
    refine' wpAnyH_take (i := 6) (v := _) rfl (by kernel_rfl) (by kernel_rfl) (by kernel_rfl) (fun _ _ _ h => h) (Or.inl ⟨by rfl, ?hy1006⟩) (by assumption) ?rest1006
    case hy1006 =>
      intro w h
      (try clear h)
      go_simp
      (try with_reducible rfl)
    (try simp only [Act.put, List.getElem_toArray, List.getElem_cons_zero, List.getElem_cons_succ, List.setIfInBounds_toArray, List.set_cons_zero, List.set_cons_succ])
    refine' wpAnyH_take (i := 7) (v := _) rfl (by kernel_rfl) (by kernel_rfl) (by kernel_rfl) (fun _ _ _ h => h) (Or.inl ⟨by rfl, ?hy1007⟩) (by assumption) ?rest1007
    case hy1007 =>
      intro w h
      have c_ := cellR h (keepc B2.out C0.out) (by simp)
      (try clear h)
      go_simp
      (try with_reducible rfl)
    (try simp only [Act.put, List.getElem_toArray, List.getElem_cons_zero, List.getElem_cons_succ, List.setIfInBounds_toArray, List.set_cons_zero, List.set_cons_succ])
    refine wpAnyH_ready (rs := [4]) (by kernel_rfl) (by simp) ?_
    refine AllReadyH.cons rfl (fun K hK => ?_) AllReadyH.nil
    go_simp
    refine (HE.out _ _ F1_V.out).mono ?_
    rintro e d2 ⟨t1, rfl, ho, hb⟩
    have F2_V := Lib.hid (F1_V.out.below hb)
    have F2_B := Lib.hid (joins F1_B.out hb)
    have F2_X := Lib.hid ho
    have hHeld := grownB hHeld hb
    clear ho hb
    refine hK.out _ _ hHeld (fun hHeld => ?_)
    clear hK K
    (try simp only [Act.put, List.getElem_toArray, List.getElem_cons_zero, List.getElem_cons_succ, List.setIfInBounds_toArray, List.set_cons_zero, List.set_cons_succ])
    refine wpAnyH_ready (rs := [8]) (by kernel_rfl) (by simp) ?_
    refine AllReadyH.cons rfl (fun K hK => ?_) AllReadyH.nil
    have LW_ := Lib.hid (show w.heap.size ≤ d2.heap.size from F2_B.out.size)
    go_simp
    refine (HT.out _ _ F2_X.out.is).mono ?_
    rintro e d3 ⟨t2, rfl, ho, hb⟩
    have F3_V := Lib.hid (F2_V.out.below hb)
    have F3_B := Lib.hid (joins F2_B.out hb)
    have F3_X := Lib.hid (F2_X.out.below hb)
    have F3_Y := Lib.hid ho
    have hHeld := grownB hHeld hb
    clear ho hb
    refine hK.out _ _ hHeld (fun hHeld => ?_)
    clear hK K
    (try simp only [Act.put, List.getElem_toArray, List.getElem_cons_zero, List.getElem_cons_succ, List.setIfInBounds_toArray, List.set_cons_zero, List.set_cons_succ])
    refine' wpAnyH_take (i := 9) (v := _) rfl (by kernel_rfl) (by kernel_rfl) (by kernel_rfl) (fun _ _ _ h => h) (Or.inl ⟨by rfl, ?hy1008⟩) (by assumption) ?rest1008
    case hy1008 =>
      intro w h
      (try clear h)
      go_simp
      (try with_reducible rfl)
    (try simp only [Act.put, List.getElem_toArray, List.getElem_cons_zero, List.getElem_cons_succ, List.setIfInBounds_toArray, List.set_cons_zero, List.set_cons_succ])
    refine wpAnyH_done (by kernel_rfl) ?_ _
    go_wp2_with fail
    go_returns
    exact ⟨_, rfl, F3_Y.out.mono LW_.out, F3_B.out⟩
  · show Calls _ _ _ _ (Makes w (turnG (climbG (barG l) b) a))
    have HC := Lib.hid (fun v w (h : IS w v l) => phConjugate_any v l w h hl)
    have HE := Lib.hid (fun v w (h : IS w v (barG l)) => phClimb_any v (barG l) b w h (barG_seq _ hl) hb1 hb2)
    have HT := Lib.hid (fun v w (h : IS w v (climbG (barG l) b)) => phTurn_any v (climbG (barG l) b) a w h (climb_seq _ _ (barG_seq _ hl)) (by omega) (by omega))
    obtain ⟨L1, h_L1⟩ : ∃ x, x = barG l := ⟨_, rfl⟩
    rw [← h_L1] at HC HE HT ⊢
    obtain ⟨L3, h_L3⟩ : ∃ x, x = climbG L1 b := ⟨_, rfl⟩
    rw [← h_L3] at HE HT ⊢
    obtain ⟨L4, h_L4⟩ : ∃ x, x = turnG L3 a := ⟨_, rfl⟩
    rw [← h_L4] at HT ⊢
    clear hl ha1 ha2 hb1 hb2 hc hd h_L1 h_L3 h_L4
    have c2 := C2.out
    go_enter Try.func61, Try.ntmps61
    go_wp2_with fail
    refine (HC.out _ _ HV.out).mono ?_
    rintro e w1 ⟨s1, rfl, ho, hb⟩
    have O1 := Lib.hid ho
    have B1 := Lib.hid hb
    have c3_1 := keepc B1.out C3.out
    clear ho hb
    go_wp2_with fail
    have V_ := Lib.hid (O1.out.is)
    refine wp_region_held_drew (S := (fun w' => World.grownBy w1 w' none)) (by kernel_rfl) (grownDrew (World.grownBy.refl _ _)) ?_
    obtain ⟨d1, hdw⟩ : ∃ w', w' = w1.drew := ⟨_, rfl⟩
    rw [← hdw]
    have hb : Below w1.heap.size w1 d1 := by rw [hdw]; exact belowN (Below.refl _ _) 1
    have F1_V := Lib.hid (V_.out.below hb)
    have F1_B := Lib.hid (joins B1.out hb)
    clear hdw hb
    intro hHeld
    refine' wpAnyH_take (i := 0) (v := _) rfl (by kernel_rfl) (by kernel_rfl) (by kernel_rfl) (fun _ _ _ h => h) (Or.inl ⟨by rfl, ?hy2001⟩) (by assumption) ?rest2001
    case hy2001 =>
      intro w h
      (try clear h)
      go_simp
      (try with_reducible rfl)
    (try simp only [Act.put, List.getElem_toArray, List.getElem_cons_zero, List.setIfInBounds_toArray, List.set_cons_zero, List.set_cons_succ])
    refine' wpAnyH_take (i := 1) (v := _) rfl (by kernel_rfl) (by kernel_rfl) (by kernel_rfl) (fun _ _ _ h => h) (Or.inl ⟨by rfl, ?hy2002⟩) (by assumption) ?rest2002
    case hy2002 =>
      intro w h
      (try clear h)
      go_simp
      (try with_reducible rfl)
    (try simp only [Act.put, List.getElem_toArray, List.getElem_cons_zero, List.getElem_cons_succ, List.setIfInBounds_toArray, List.set_cons_zero, List.set_cons_succ])
    refine' wpAnyH_take (i := 2) (v := _) rfl (by kernel_rfl) (by kernel_rfl) (by kernel_rfl) (fun _ _ _ h => h) (Or.inl ⟨by rfl, ?hy2003⟩) (by assumption) ?rest2003
    case hy2003 =>
      intro w h
      have c_ := cellR h (keepc B1.out C1.out) (by simp)
      (try clear h)
      go_simp
      (try with_reducible rfl)
    (try simp only [Act.put, List.getElem_toArray, List.getElem_cons_zero, List.getElem_cons_succ, List.setIfInBounds_toArray, List.set_cons_zero, List.set_cons_succ])
    refine' wpAnyH_take (i := 3) (v := _) rfl (by kernel_rfl) (by kernel_rfl) (by kernel_rfl) (fun _ _ _ h => h) (Or.inl ⟨by rfl, ?hy2004⟩) (by assumption) ?rest2004
    case hy2004 =>
      intro w h
      have c_ := cellR h (keepc B1.out C1.out) (by simp)
      (try clear h)
      go_simp
      (try with_reducible rfl)
    (try simp only [Act.put, List.getElem_toArray, List.getElem_cons_zero, List.getElem_cons_succ, List.setIfInBounds_toArray, List.set_cons_zero, List.set_cons_succ])
    refine' wpAnyH_take (i := 5) (v := _) rfl (by kernel_rfl) (by kernel_rfl) (by kernel_rfl) (fun _ _ _ h => h) (Or.inl ⟨by rfl, ?hy2005⟩) (by assumption) ?rest2005
    case hy2005 =>
      intro w h
      (try clear h)
      go_simp
      (try with_reducible rfl)
    (try simp only [Act.put, List.getElem_toArray, List.getElem_cons_zero, List.getElem_cons_succ, List.setIfInBounds_toArray, List.set_cons_zero, List.set_cons_succ])
    refine' wpAnyH_take (i := 6) (v := _) rfl (by kernel_rfl) (by kernel_rfl) (by kernel_rfl) (fun _ _ _ h => h) (Or.inl ⟨by rfl, ?hy2006⟩) (by assumption) ?rest2006
    case hy2006 =>
      intro w h
      (try clear h)
      go_simp
      (try with_reducible rfl)
    (try simp only [Act.put, List.getElem_toArray, List.getElem_cons_zero, List.getElem_cons_succ, List.setIfInBounds_toArray, List.set_cons_zero, List.set_cons_succ])
    refine' wpAnyH_take (i := 7) (v := _) rfl (by kernel_rfl) (by kernel_rfl) (by kernel_rfl) (fun _ _ _ h => h) (Or.inl ⟨by rfl, ?hy2007⟩) (by assumption) ?rest2007
    case hy2007 =>
      intro w h
      have c_ := cellR h (keepc B1.out C0.out) (by simp)
      (try clear h)
      go_simp
      (try with_reducible rfl)
    (try simp only [Act.put, List.getElem_toArray, List.getElem_cons_zero, List.getElem_cons_succ, List.setIfInBounds_toArray, List.set_cons_zero, List.set_cons_succ])
    refine wpAnyH_ready (rs := [4]) (by kernel_rfl) (by simp) ?_
    refine AllReadyH.cons rfl (fun K hK => ?_) AllReadyH.nil
    go_simp
    refine (HE.out _ _ F1_V.out).mono ?_
    rintro e d2 ⟨t1, rfl, ho, hb⟩
    have F2_V := Lib.hid (F1_V.out.below hb)
    have F2_B := Lib.hid (joins F1_B.out hb)
    have F2_X := Lib.hid ho
    have hHeld := grownB hHeld hb
    clear ho hb
    refine hK.out _ _ hHeld (fun hHeld => ?_)
    clear hK K
    (try simp only [Act.put, List.getElem_toArray, List.getElem_cons_zero, List.getElem_cons_succ, List.setIfInBounds_toArray, List.set_cons_zero, List.set_cons_succ])
    refine wpAnyH_ready (rs := [8]) (by kernel_rfl) (by simp) ?_
    refine AllReadyH.cons rfl (fun K hK => ?_) AllReadyH.nil
    have LW_ := Lib.hid (show w.heap.size ≤ d2.heap.size from F2_B.out.size)
    go_simp
    refine (HT.out _ _ F2_X.out.is).mono ?_
    rintro e d3 ⟨t2, rfl, ho, hb⟩
    have F3_V := Lib.hid (F2_V.out.below hb)
    have F3_B := Lib.hid (joins F2_B.out hb)
    have F3_X := Lib.hid (F2_X.out.below hb)
    have F3_Y := Lib.hid ho
    have hHeld := grownB hHeld hb
    clear ho hb
    refine hK.out _ _ hHeld (fun hHeld => ?_)
    clear hK K
    (try simp only [Act.put, List.getElem_toArray, List.getElem_cons_zero, List.getElem_cons_succ, List.setIfInBounds_toArray, List.set_cons_zero, List.set_cons_succ])
    refine' wpAnyH_take (i := 9) (v := _) rfl (by kernel_rfl) (by kernel_rfl) (by kernel_rfl) (fun _ _ _ h => h) (Or.inl ⟨by rfl, ?hy2008⟩) (by assumption) ?rest2008
    case hy2008 =>
      intro w h
      (try clear h)
      go_simp
      (try with_reducible rfl)
    (try simp only [Act.put, List.getElem_toArray, List.getElem_cons_zero, List.getElem_cons_succ, List.setIfInBounds_toArray, List.set_cons_zero, List.set_cons_succ])
    refine wpAnyH_done (by kernel_rfl) ?_ _
    go_wp2_with fail
    go_returns
    exact ⟨_, rfl, F3_Y.out.mono LW_.out, F3_B.out⟩
  · show Calls _ _ _ _ (Makes w (turnG (climbG (backG (barG l)) b) a))
    have HC := Lib.hid (fun v w (h : IS w v l) => phConjugate_any v l w h hl)
    have HD := Lib.hid (fun v w (h : IS w v (barG l)) => phBack_any v (barG l) w h (barG_seq _ hl))
    have HE := Lib.hid (fun v w (h : IS w v (backG (barG l))) => phClimb_any v (backG (barG l)) b w h (backG_seq _ (barG_seq _ hl)) hb1 hb2)
    have HT := Lib.hid (fun v w (h : IS w v (climbG (backG (barG l)) b)) => phTurn_any v (climbG (backG (barG l)) b) a w h (climb_seq _ _ (backG_seq _ (barG_seq _ hl))) (by omega) (by omega))
    obtain ⟨L1, h_L1⟩ : ∃ x, x = barG l := ⟨_, rfl⟩
    rw [← h_L1] at HC HD HE HT ⊢
    obtain ⟨L2, h_L2⟩ : ∃ x, x = backG L1 := ⟨_, rfl⟩
    rw [← h_L2] at HD HE HT ⊢
    obtain ⟨L3, h_L3⟩ : ∃ x, x = climbG L2 b := ⟨_, rfl⟩
    rw [← h_L3] at HE HT ⊢
    obtain ⟨L4, h_L4⟩ : ∃ x, x = turnG L3 a := ⟨_, rfl⟩
    rw [← h_L4] at HT ⊢
    clear hl ha1 ha2 hb1 hb2 hc hd h_L1 h_L2 h_L3 h_L4
    have c2 := C2.out
    go_enter Try.func61, Try.ntmps61
    go_wp2_with fail
    refine (HC.out _ _ HV.out).mono ?_
    rintro e w1 ⟨s1, rfl, ho, hb⟩
    have O1 := Lib.hid ho
    have B1 := Lib.hid hb
    have c3_1 := keepc B1.out C3.out
    clear ho hb
    go_wp2_with fail
    refine (HD.out _ _ O1.out.is).mono ?_
    rintro e w2 ⟨s2, rfl, ho, hb⟩
    have O2 := Lib.hid ho
    have B2 := Lib.hid (joins B1.out hb)
    clear ho hb
    go_wp2_with fail
    have V_ := Lib.hid (O2.out.is)
    refine wp_region_held_drew (S := (fun w' => World.grownBy w2 w' none)) (by kernel_rfl) (grownDrew (World.grownBy.refl _ _)) ?_
    obtain ⟨d1, hdw⟩ : ∃ w', w' = w2.drew := ⟨_, rfl⟩
    rw [← hdw]
    have hb : Below w2.heap.size w2 d1 := by rw [hdw]; exact belowN (Below.refl _ _) 1
    have F1_V := Lib.hid (V_.out.below hb)
    have F1_B := Lib.hid (joins B2.out hb)
    clear hdw hb
    intro hHeld
    refine' wpAnyH_take (i := 0) (v := _) rfl (by kernel_rfl) (by kernel_rfl) (by kernel_rfl) (fun _ _ _ h => h) (Or.inl ⟨by rfl, ?hy3001⟩) (by assumption) ?rest3001
    case hy3001 =>
      intro w h
      (try clear h)
      go_simp
      (try with_reducible rfl)
    (try simp only [Act.put, List.getElem_toArray, List.getElem_cons_zero, List.setIfInBounds_toArray, List.set_cons_zero, List.set_cons_succ])
    refine' wpAnyH_take (i := 1) (v := _) rfl (by kernel_rfl) (by kernel_rfl) (by kernel_rfl) (fun _ _ _ h => h) (Or.inl ⟨by rfl, ?hy3002⟩) (by assumption) ?rest3002
    case hy3002 =>
      intro w h
      (try clear h)
      go_simp
      (try with_reducible rfl)
    (try simp only [Act.put, List.getElem_toArray, List.getElem_cons_zero, List.getElem_cons_succ, List.setIfInBounds_toArray, List.set_cons_zero, List.set_cons_succ])
    refine' wpAnyH_take (i := 2) (v := _) rfl (by kernel_rfl) (by kernel_rfl) (by kernel_rfl) (fun _ _ _ h => h) (Or.inl ⟨by rfl, ?hy3003⟩) (by assumption) ?rest3003
    case hy3003 =>
      intro w h
      have c_ := cellR h (keepc B2.out C1.out) (by simp)
      (try clear h)
      go_simp
      (try with_reducible rfl)
    (try simp only [Act.put, List.getElem_toArray, List.getElem_cons_zero, List.getElem_cons_succ, List.setIfInBounds_toArray, List.set_cons_zero, List.set_cons_succ])
    refine' wpAnyH_take (i := 3) (v := _) rfl (by kernel_rfl) (by kernel_rfl) (by kernel_rfl) (fun _ _ _ h => h) (Or.inl ⟨by rfl, ?hy3004⟩) (by assumption) ?rest3004
    case hy3004 =>
      intro w h
      have c_ := cellR h (keepc B2.out C1.out) (by simp)
      (try clear h)
      go_simp
      (try with_reducible rfl)
    (try simp only [Act.put, List.getElem_toArray, List.getElem_cons_zero, List.getElem_cons_succ, List.setIfInBounds_toArray, List.set_cons_zero, List.set_cons_succ])
    refine' wpAnyH_take (i := 5) (v := _) rfl (by kernel_rfl) (by kernel_rfl) (by kernel_rfl) (fun _ _ _ h => h) (Or.inl ⟨by rfl, ?hy3005⟩) (by assumption) ?rest3005
    case hy3005 =>
      intro w h
      (try clear h)
      go_simp
      (try with_reducible rfl)
    (try simp only [Act.put, List.getElem_toArray, List.getElem_cons_zero, List.getElem_cons_succ, List.setIfInBounds_toArray, List.set_cons_zero, List.set_cons_succ])
    refine' wpAnyH_take (i := 6) (v := _) rfl (by kernel_rfl) (by kernel_rfl) (by kernel_rfl) (fun _ _ _ h => h) (Or.inl ⟨by rfl, ?hy3006⟩) (by assumption) ?rest3006
    case hy3006 =>
      intro w h
      (try clear h)
      go_simp
      (try with_reducible rfl)
    (try simp only [Act.put, List.getElem_toArray, List.getElem_cons_zero, List.getElem_cons_succ, List.setIfInBounds_toArray, List.set_cons_zero, List.set_cons_succ])
    refine' wpAnyH_take (i := 7) (v := _) rfl (by kernel_rfl) (by kernel_rfl) (by kernel_rfl) (fun _ _ _ h => h) (Or.inl ⟨by rfl, ?hy3007⟩) (by assumption) ?rest3007
    case hy3007 =>
      intro w h
      have c_ := cellR h (keepc B2.out C0.out) (by simp)
      (try clear h)
      go_simp
      (try with_reducible rfl)
    (try simp only [Act.put, List.getElem_toArray, List.getElem_cons_zero, List.getElem_cons_succ, List.setIfInBounds_toArray, List.set_cons_zero, List.set_cons_succ])
    refine wpAnyH_ready (rs := [4]) (by kernel_rfl) (by simp) ?_
    refine AllReadyH.cons rfl (fun K hK => ?_) AllReadyH.nil
    go_simp
    refine (HE.out _ _ F1_V.out).mono ?_
    rintro e d2 ⟨t1, rfl, ho, hb⟩
    have F2_V := Lib.hid (F1_V.out.below hb)
    have F2_B := Lib.hid (joins F1_B.out hb)
    have F2_X := Lib.hid ho
    have hHeld := grownB hHeld hb
    clear ho hb
    refine hK.out _ _ hHeld (fun hHeld => ?_)
    clear hK K
    (try simp only [Act.put, List.getElem_toArray, List.getElem_cons_zero, List.getElem_cons_succ, List.setIfInBounds_toArray, List.set_cons_zero, List.set_cons_succ])
    refine wpAnyH_ready (rs := [8]) (by kernel_rfl) (by simp) ?_
    refine AllReadyH.cons rfl (fun K hK => ?_) AllReadyH.nil
    have LW_ := Lib.hid (show w.heap.size ≤ d2.heap.size from F2_B.out.size)
    go_simp
    refine (HT.out _ _ F2_X.out.is).mono ?_
    rintro e d3 ⟨t2, rfl, ho, hb⟩
    have F3_V := Lib.hid (F2_V.out.below hb)
    have F3_B := Lib.hid (joins F2_B.out hb)
    have F3_X := Lib.hid (F2_X.out.below hb)
    have F3_Y := Lib.hid ho
    have hHeld := grownB hHeld hb
    clear ho hb
    refine hK.out _ _ hHeld (fun hHeld => ?_)
    clear hK K
    (try simp only [Act.put, List.getElem_toArray, List.getElem_cons_zero, List.getElem_cons_succ, List.setIfInBounds_toArray, List.set_cons_zero, List.set_cons_succ])
    refine' wpAnyH_take (i := 9) (v := _) rfl (by kernel_rfl) (by kernel_rfl) (by kernel_rfl) (fun _ _ _ h => h) (Or.inl ⟨by rfl, ?hy3008⟩) (by assumption) ?rest3008
    case hy3008 =>
      intro w h
      (try clear h)
      go_simp
      (try with_reducible rfl)
    (try simp only [Act.put, List.getElem_toArray, List.getElem_cons_zero, List.getElem_cons_succ, List.setIfInBounds_toArray, List.set_cons_zero, List.set_cons_succ])
    refine wpAnyH_done (by kernel_rfl) ?_ _
    go_wp2_with fail
    go_returns
    exact ⟨_, rfl, F3_Y.out.mono LW_.out, F3_B.out⟩

end Go.Proofs.Ytcagiecgbjnefab
