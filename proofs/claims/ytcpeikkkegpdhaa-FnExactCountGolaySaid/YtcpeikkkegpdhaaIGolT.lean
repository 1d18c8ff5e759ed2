/- The program's CountGolay and FirstGolay, out of its search. -/
import Derived.Test.YtcpeikkkegpdhaaIGol
import Derived.Test.YtcpeikkkegpdhaaSGoJ
namespace Go.Proofs.Ytcpeikkkegpdhaa
set_option maxRecDepth 100000
open Go.RowKit

theorem selL_has {p : Nat → Bool} {r : Nat} (hp : p r = true) : ∀ k, r < k → r ∈ selL p k
  | 0, h => by omega
  | k + 1, h => by
    by_cases e : r = k
    · subst e; rw [selL_yes hp]; simp
    · have ih := selL_has hp k (by omega)
      cases hk : p k with
      | true => rw [selL_yes hk]; exact List.mem_append_left _ ih
      | false => rw [selL_no hk]; exact ih
theorem gkB_1 : gkB 1 0 = true := by decide +kernel
theorem gkB_2 : gkB 2 2 = true := by decide +kernel
theorem gkB_3 : gkB 3 132 = true := by decide +kernel
theorem gkB_4 : gkB 4 520 = true := by decide +kernel
theorem gkL_some (n : Nat) (h1 : 1 ≤ n) (h4 : n ≤ 4) : ∃ r t, gkL n = r :: t := by
  have : ∃ r, r ∈ gkL n := by
    rcases (show n = 1 ∨ n = 2 ∨ n = 3 ∨ n = 4 by omega) with rfl | rfl | rfl | rfl
    · exact ⟨_, selL_has gkB_1 _ (by decide)⟩
    · exact ⟨_, selL_has gkB_2 _ (by decide)⟩
    · exact ⟨_, selL_has gkB_3 _ (by decide)⟩
    · exact ⟨_, selL_has gkB_4 _ (by decide)⟩
  obtain ⟨r, hr⟩ := this
  cases h : gkL n with
  | nil => rw [h] at hr; cases hr
  | cons a t => exact ⟨a, t, rfl⟩
theorem gkL_len (n : Nat) (h : n ≤ 4) : (gkL n).length ≤ 65536 := by
  have := selL_len (gkB n) (pow4 n * pow4 n)
  have h2 := (pow4_small n h).2
  have := Nat.mul_le_mul h2 h2
  unfold gkL
  omega
theorem ownsRow_shape {w : World} {B z n : Nat} {E : TypeId} {v : Value} {xs : List Value} (h : w.ownsRow B E z v n xs) : ∃ a cap, v = .slice a n cap := by
  obtain ⟨_, h | h⟩ := h
  · obtain ⟨rfl, rfl⟩ := h; exact ⟨none, 0, rfl⟩
  · obtain ⟨g, cap, cur, rfl, _⟩ := h; exact ⟨_, _, rfl⟩
theorem ownsRow_first {w : World} {B z n : Nat} {E : TypeId} {v : Value} {cs rest : List Value} (h : w.ownsRow B E z v (n + 1) (cs ++ rest)) : ∃ g cap, v = .slice (some ⟨g, 0, none⟩) (n + 1) cap ∧ w.rangeAt g 0 cs := by
  have h0 := h
  obtain ⟨hl, h | h⟩ := h
  · omega
  · obtain ⟨g, cap, cur, rfl, _⟩ := h
    refine ⟨g, cap, rfl, fun j u hj => ?_⟩
    have := h0.cells (g := g) rfl j u (by rw [List.getElem?_append_left (by rw [List.getElem?_eq_some_iff] at hj; exact hj.1)]; exact hj)
    rw [Nat.zero_add]
    rcases j with _ | j
    · exact this
    · simpa [Addr.add] using this

set_option maxHeartbeats 1000000 in
theorem icountGolay (n : Int) (w : World) : Calls Try.prog 6 #[.int .i64 n] w (Ret w (.tuple #[.int .i64 (gkC n), .bool (smallG n)])) := by
  have HC := isPaired_any n
  by_cases hs : smallG n = true
  · have hn : 1 ≤ n ∧ n ≤ 4 := by simpa [smallG] using hs
    obtain ⟨N, rfl⟩ := Int.eq_ofNat_of_zero_le (show 0 ≤ n by omega)
    have HA := golaysOf_any N (by omega) (by omega)
    have hc : gkC N = ((gkL N).length : Nat) := by unfold gkC; rw [hs]; rfl
    have hle := gkL_len N (by omega)
    rw [hc, hs]
    simp only [hs] at HC
    have HC' := Lib.hid HC
    have HA' := Lib.hid HA
    obtain ⟨C, hC⟩ : ∃ C : Nat, C = (gkL N).length := ⟨_, rfl⟩
    rw [← hC] at hle ⊢
    have HCC := Lib.hid hC
    clear HC HA hC hc hs hn
    go_enter Try.func6, Try.ntmps6
    go_wp2_with fail
    refine (HC'.out _).mono ?_
    rintro e w1 ⟨rfl, rfl⟩
    go_wp2_with fail
    refine (HA'.out _).mono ?_
    rintro e w2 ⟨v, rfl, hown, hb⟩
    rw [← HCC.out] at hown
    obtain ⟨a, cap, rfl⟩ := ownsRow_shape hown
    clear hown
    go_wp2_with fail
    go_returns
    exact ⟨rfl, hb⟩
  · have hs2 : smallG n = false := by simpa using hs
    have hc : gkC n = 0 := by unfold gkC; rw [hs2]; rfl
    rw [hc, hs2]
    simp only [hs2] at HC
    have HC' := Lib.hid HC
    clear HC hc hs hs2
    go_enter Try.func6, Try.ntmps6
    go_wp2_with fail
    refine (HC'.out _).mono ?_
    rintro e w1 ⟨rfl, rfl⟩
    go_wp2_with fail
    go_returns
    exact ⟨rfl, by go_grown⟩
set_option maxHeartbeats 4000000 in
theorem ifirstGolay (n : Int) (w : World) : Calls Try.prog 8 #[.int .i64 n] w (Makes2B w (gk1 n) (gk2 n) (smallG n)) := by
  have HC := isPaired_any n
  by_cases hs : smallG n = true
  · have hn : 1 ≤ n ∧ n ≤ 4 := by simpa [smallG] using hs
    obtain ⟨N, rfl⟩ := Int.eq_ofNat_of_zero_le (show 0 ≤ n by omega)
    have HA := golaysOf_any N (by omega) (by omega)
    obtain ⟨r, t, hrt⟩ := gkL_some N (by omega) (by omega)
    obtain ⟨e1, he1⟩ : ∃ e, e = lowD ((r / pow4 N : Nat) : Int) N := ⟨_, rfl⟩
    obtain ⟨e2, he2⟩ : ∃ e, e = lowD ((r % pow4 N : Nat) : Int) N := ⟨_, rfl⟩
    have h1 : gk1 N = e1 := by unfold gk1; rw [hs]; show gkP N (gkL N) = _; rw [hrt, he1]; rfl
    have h2 : gk2 N = e2 := by unfold gk2; rw [hs]; show gkQ N (gkL N) = _; rw [hrt, he2]; rfl
    rw [h1, h2, hs]
    simp only [hs] at HC
    have s1 : isSeq e1 = true := by rw [he1]; exact lowD_seq _ N (by omega)
    have s2 : isSeq e2 = true := by rw [he2]; exact lowD_seq _ N (by omega)
    have hPC : pairCells N (gkL N) = (prC e1 e2).toList ++ pairCells N t := by rw [hrt, he1, he2]; rfl
    have hLN : (gkL N).length = t.length + 1 := by rw [hrt]; rfl
    have hle := gkL_len N (by omega)
    rw [hLN] at hle
    have L1 := Lib.hid (listC e1 s1)
    have L2 := Lib.hid (listC e2 s2)
    have SC := Lib.hid (prC_size e1 e2)
    have OC := Lib.hid (prC_one e1 e2)
    have P1 := Lib.hid (prC_fst e1 e2)
    have P2 := Lib.hid (prC_snd e1 e2)
    have I1 := Lib.hid (infoPhC e1)
    have I2 := Lib.hid (infoPhC e2)
    have SZ := Lib.hid (prC_size [] [])
    have ZZ := Lib.hid zeroPr
    obtain ⟨Z, hZ⟩ : ∃ Z, Z = prC [] [] := ⟨_, rfl⟩
    rw [← hZ] at SZ ZZ
    obtain ⟨C, hC⟩ : ∃ Z, Z = prC e1 e2 := ⟨_, rfl⟩
    rw [← hC] at SC OC P1 P2 hPC
    obtain ⟨C1, hC1⟩ : ∃ Z, Z = phC e1 := ⟨_, rfl⟩
    obtain ⟨C2, hC2⟩ : ∃ Z, Z = phC e2 := ⟨_, rfl⟩
    rw [← hC1] at L1 P1 I1
    rw [← hC2] at L2 P2 I2
    have HC' := Lib.hid HC
    have HA' := Lib.hid HA
    have HPC := Lib.hid hPC
    have HLN := Lib.hid hLN
    obtain ⟨M, hM⟩ : ∃ M : Nat, M = t.length := ⟨_, rfl⟩
    rw [← hM] at HLN hle
    have h0 : (0 : Int) ≤ 0 := by omega
    have hin : (0 : Int) < ((M + 1 : Nat) : Int) := by omega
    clear HC HA h1 h2 hs hn hrt he1 he2 s1 s2 hPC hLN hZ hC hC1 hC2 hM
    have B0 := Lib.hid (Below.refl w.heap.size w)
    go_enter Try.func8, Try.ntmps8
    go_wp2_with fail
    refine (HC'.out _).mono ?_
    rintro e w' ⟨rfl, rfl⟩
    go_wp2_with fail
    refine (HA'.out _).mono ?_
    rintro e w1 ⟨v, rfl, hown, hb⟩
    rw [HPC.out, HLN.out] at hown
    obtain ⟨g, cap, rfl, hfirst⟩ := ownsRow_first hown
    have HF := Lib.hid hfirst
    have B1 := Lib.hid (joins B0.out hb)
    clear hown hb hfirst
    go_wp2_with (first
      | ((with_reducible refine at_op (Op.load 39 (.tmp 11)) ?_); refine wpList_load_mid rfl 39 (.tmp 11) rfl g 0 rfl C.toList _ HF.out Try.underlying39 rfl (by rw [Array.length_toList, SC.out]; exact infoPr) ?_; rw [Array.toArray_toList])
      | ((with_reducible refine at_op (d := some 5) (Op.alloc 39) ?_); refine wpList_alloc_row rfl 39 rfl Z (fun w => ZZ.out w) ?_; intro w2 hr hb hz; have R2_p := Lib.hid hr; have B2 := Lib.hid (joins B1.out hb); have L2_p := Lib.hid (show w.heap.size ≤ w1.heap.size from B1.out.size); clear hr hb hz)
      | ((with_reducible refine at_op (Op.store 39 (.tmp 5) (.tmp 12)) ?_); refine wpList_put_row rfl 39 (.tmp 5) (.tmp 12) rfl (w1.heap.size) C rfl rfl 39 Z R2_p.out 66 infoPr SC.out SZ.out OC.out w.heap.size w B2.out L2_p.out ?_; intro w3 hr hs hb; have R3_p := Lib.hid hr; have B3 := Lib.hid hb; clear hr hs hb))
    refine wp_region_held_drew (S := (fun w' => World.grownBy w3 w' none)) (by kernel_rfl) (grownDrew (World.grownBy.refl _ _)) ?_
    obtain ⟨w4, hdw⟩ : ∃ w', w' = w3.drew := ⟨_, rfl⟩
    rw [← hdw]
    have hb : Below w3.heap.size w3 w4 := by rw [hdw]; exact belowN (Below.refl _ _) 1
    have R4_p := Lib.hid (rowB R3_p.out hb)
    have B4 := Lib.hid (joins B3.out hb)
    clear hdw hb
    intro hHeld
    refine' wpAnyH_take (i := 0) (v := _) rfl (by kernel_rfl) (by kernel_rfl) (by kernel_rfl) (fun _ _ _ h => h) (Or.inl ⟨by rfl, ?hy1⟩) (by assumption) ?rest1
    case hy1 =>
      intro w h
      (try clear h)
      go_simp
      (try with_reducible rfl)
    (try simp only [Act.put, List.getElem_toArray, List.getElem_cons_zero, List.setIfInBounds_toArray, List.set_cons_zero, List.set_cons_succ])
    refine' wpAnyH_take (i := 1) (v := _) rfl (by kernel_rfl) (by kernel_rfl) (by kernel_rfl) (fun _ _ _ h => h) (yieldsPart (by rfl) 37 (.tmp 13) rfl (w1.heap.size) 0 rfl C C1 39 (0, 0) _ (fun w h => (rowG R3_p.out h (by simp))) P1.out Try.underlying37 rfl I1.out) (by assumption) ?rest2
    (try simp only [Act.put, List.getElem_toArray, List.getElem_cons_zero, List.getElem_cons_succ, List.setIfInBounds_toArray, List.set_cons_zero, List.set_cons_succ])
    refine' wpAnyH_take (i := 3) (v := _) rfl (by kernel_rfl) (by kernel_rfl) (by kernel_rfl) (fun _ _ _ h => h) (Or.inl ⟨by rfl, ?hy3⟩) (by assumption) ?rest3
    case hy3 =>
      intro w h
      (try clear h)
      go_simp
      (try with_reducible rfl)
    (try simp only [Act.put, List.getElem_toArray, List.getElem_cons_zero, List.getElem_cons_succ, List.setIfInBounds_toArray, List.set_cons_zero, List.set_cons_succ])
    refine' wpAnyH_take (i := 4) (v := _) rfl (by kernel_rfl) (by kernel_rfl) (by kernel_rfl) (fun _ _ _ h => h) (yieldsPart (by rfl) 37 (.tmp 16) rfl (w1.heap.size) 33 rfl C C2 39 (0, 0) _ (fun w h => (rowG R3_p.out h (by simp))) P2.out Try.underlying37 rfl I2.out) (by assumption) ?rest4
    (try simp only [Act.put, List.getElem_toArray, List.getElem_cons_zero, List.getElem_cons_succ, List.setIfInBounds_toArray, List.set_cons_zero, List.set_cons_succ])
    refine wpAnyH_ready (rs := [2]) (by kernel_rfl) (by simp) ?_
    refine AllReadyH.cons rfl (fun K hK => ?_) AllReadyH.nil
    go_simp
    refine (L1.out _).mono ?_
    rintro e w5 ⟨v_x, rfl, ho, hb⟩
    have R5_p := Lib.hid (rowB R4_p.out hb)
    have B5 := Lib.hid (joins B4.out hb)
    have O5_x := Lib.hid ho
    have LO_x := Lib.hid (show w.heap.size ≤ w4.heap.size from B4.out.size)
    clear ho
    have hHeld := grownB hHeld hb
    clear hb
    refine hK.out _ _ hHeld (fun hHeld => ?_)
    clear hK K
    (try simp only [Act.put, List.getElem_toArray, List.getElem_cons_zero, List.getElem_cons_succ, List.setIfInBounds_toArray, List.set_cons_zero, List.set_cons_succ])
    refine wpAnyH_ready (rs := [5]) (by kernel_rfl) (by simp) ?_
    refine AllReadyH.cons rfl (fun K hK => ?_) AllReadyH.nil
    go_simp
    refine (L2.out _).mono ?_
    rintro e w6 ⟨v_y, rfl, ho, hb⟩
    have R6_p := Lib.hid (rowB R5_p.out hb)
    have O6_x := Lib.hid (O5_x.out.below hb)
    have B6 := Lib.hid (joins B5.out hb)
    have O6_y := Lib.hid ho
    have LO_y := Lib.hid (show w.heap.size ≤ w5.heap.size from B5.out.size)
    clear ho
    have hHeld := grownB hHeld hb
    clear hb
    refine hK.out _ _ hHeld (fun hHeld => ?_)
    clear hK K
    (try simp only [Act.put, List.getElem_toArray, List.getElem_cons_zero, List.getElem_cons_succ, List.setIfInBounds_toArray, List.set_cons_zero, List.set_cons_succ])
    refine' wpAnyH_take (i := 6) (v := _) rfl (by kernel_rfl) (by kernel_rfl) (by kernel_rfl) (fun _ _ _ h => h) (Or.inl ⟨by rfl, ?hy5⟩) (by assumption) ?rest5
    case hy5 =>
      intro w h
      (try clear h)
      go_simp
      (try with_reducible rfl)
    (try simp only [Act.put, List.getElem_toArray, List.getElem_cons_zero, List.getElem_cons_succ, List.setIfInBounds_toArray, List.set_cons_zero, List.set_cons_succ])
    refine' wpAnyH_take (i := 7) (v := _) rfl (by kernel_rfl) (by kernel_rfl) (by kernel_rfl) (fun _ _ _ h => h) (Or.inl ⟨by rfl, ?hy6⟩) (by assumption) ?rest6
    case hy6 =>
      intro w h
      (try clear h)
      go_simp
      (try with_reducible rfl)
    (try simp only [Act.put, List.getElem_toArray, List.getElem_cons_zero, List.getElem_cons_succ, List.setIfInBounds_toArray, List.set_cons_zero, List.set_cons_succ])
    refine' wpAnyH_take (i := 8) (v := _) rfl (by kernel_rfl) (by kernel_rfl) (by kernel_rfl) (fun _ _ _ h => h) (Or.inl ⟨by rfl, ?hy7⟩) (by assumption) ?rest7
    case hy7 =>
      intro w h
      (try clear h)
      go_simp
      (try with_reducible rfl)
    (try simp only [Act.put, List.getElem_toArray, List.getElem_cons_zero, List.getElem_cons_succ, List.setIfInBounds_toArray, List.set_cons_zero, List.set_cons_succ])
    refine wpAnyH_done (by kernel_rfl) ?_ _
    go_wp2_with fail
    go_returns
    exact Makes2B.two O6_x.out O6_y.out O5_x.out LO_x.out (Nat.le_refl _) LO_y.out B6.out
  · have hs2 : smallG n = false := by simpa using hs
    have h1 : gk1 n = [] := by unfold gk1; rw [hs2]; rfl
    have h2 : gk2 n = [] := by unfold gk2; rw [hs2]; rfl
    rw [h1, h2, hs2]
    simp only [hs2] at HC
    have HC' := Lib.hid HC
    clear HC h1 h2 hs hs2
    go_enter Try.func8, Try.ntmps8
    go_wp2_with fail
    refine (HC'.out _).mono ?_
    rintro e w1 ⟨rfl, rfl⟩
    go_wp2_with fail
    go_returns
    exact ⟨_, _, rfl, World.ownsRow_nil _ _ _ _, World.ownsRow_nil _ _ _ _, fun k h => by simp [Value.ownBlock] at h, by go_grown⟩
end Go.Proofs.Ytcpeikkkegpdhaa
