/- The model's points: mdPoints, PointsOf, mdTurn, TurnPoints. -/
import Derived.Test.YtoehehaeanepmabMdP
import Derived.Test.YtoehehaeanepmabSNs
import Derived.Test.YtoehehaeanepmabSPh
import Derived.Test.YtoehehaeanepmabApG
namespace Go.Proofs.Ytoehehaeanepmab
set_option maxRecDepth 100000
open Go.RowKit

set_option maxRecDepth 100000 in
set_option maxHeartbeats 2000000 in
theorem mdPoints_any (v : Value) (s : List Int) (k : Int) (w : World) (hv : IS w v s) (hs : allIn s 0 3 = true) (hlen : s.length ≤ 64) (hk : 1 ≤ k ∧ k ≤ 1000) : Calls Try.prog 35 #[v, .int .i64 k] w (MakesG w (scL s k)) := by
  obtain ⟨a, cap, hveq⟩ := hv.slice
  subst hveq
  have HV := Lib.hid hv
  have HAT := Lib.hid (fun j hj => allIn_getD hs j hj)
  have HPT0 := Lib.hid (fun (x : Int) (hx : 0 ≤ x ∧ x ≤ 3) (w : World) => show Calls Try.prog 72 #[.agg #[.int .i64 (vx x), .int .i64 (vy x)], .agg #[.int .i64 k, .int .i64 0]] w (Ret w (.agg #[.int .i64 (k * vx x), .int .i64 (k * vy x)])) from by
    have h1 := vx_one x
    have h2 := vy_one x
    have := phTimesB_any (vx x) (vy x) k 0 (by omega) (by omega) (by omega) (by omega) w
    have e1 : mulX (vx x) (vy x) k 0 = k * vx x := by unfold mulX; rw [Int.mul_zero, Int.sub_zero, Int.mul_comm]
    have e2 : mulY (vx x) (vy x) k 0 = k * vy x := by unfold mulY; rw [Int.mul_zero, Int.zero_add, Int.mul_comm]
    rw [e1, e2] at this
    exact this)
  obtain ⟨X, hX⟩ : ∃ X, X = scX s k := ⟨_, rfl⟩
  obtain ⟨Y, hY⟩ : ∃ X, X = scY s k := ⟨_, rfl⟩
  have HXY := Lib.hid (And.intro hX hY)
  obtain ⟨n, hn⟩ : ∃ n, n = s.length := ⟨_, rfl⟩
  have hgoal : scL s k = genG n X Y := by rw [hn, hX, hY]; rfl
  rw [hgoal]
  rw [← hn] at HV hlen ⊢
  have HN := Lib.hid hn
  clear hX hY hn hv hs hgoal
  go_enter Try.func35, Try.ntmps35
  go_wp2_with fail
  go_loopw [10, 7, 5] (fun i _ o wr => ∃ j : Nat, j ≤ n ∧ i = .int .i64 j ∧ OwnG wr w.heap.size o (genG j X Y) ∧ Below w.heap.size w wr) (fun i _ _ _ => n - (intOf i).toNat)
  case atStart => exact ⟨0, Nat.zero_le _, rfl, OwnG.nil _ _, Below.refl _ _⟩
  case round =>
    obtain ⟨j, hj, rfl, hown, hbel⟩ := hrel
    by_cases hlt : j < n
    · have hltl : j < s.length := by rw [← HN.out]; exact hlt
      rcases HV.out.below hbel with ⟨h0', _⟩ | ⟨_, b, off, cap', hveq, _, hc⟩
      · rw [h0'] at hltl; exact absurd hltl (Nat.not_lt_zero _)
      simp only [Value.slice.injEq] at hveq
      obtain ⟨rfl, hnn, rfl⟩ := hveq
      clear hnn
      have c1 := hc j hltl
      have hx := HAT.out j hltl
      have HPV := Lib.hid (phValue_any (s.getD j 0) hx.1 hx.2)
      have HPT := Lib.hid (HPT0.out (s.getD j 0) hx)
      have hxy : X j = k * vx (s.getD j 0) ∧ Y j = k * vy (s.getD j 0) := by rw [HXY.out.1, HXY.out.2]; exact ⟨rfl, rfl⟩
      have hgs := genG_succ j X Y
      rw [hxy.1, hxy.2] at hgs
      obtain ⟨x, hxd⟩ : ∃ x, x = s.getD j 0 := ⟨_, rfl⟩
      rw [← hxd] at c1 hx HPV HPT hgs
      obtain ⟨p, hp⟩ : ∃ p, p = k * vx x := ⟨_, rfl⟩
      obtain ⟨q, hq⟩ : ∃ p, p = k * vy x := ⟨_, rfl⟩
      rw [← hp, ← hq] at HPT hgs
      obtain ⟨z1, hz1⟩ : ∃ p, p = vx x := ⟨_, rfl⟩
      obtain ⟨z2, hz2⟩ : ∃ p, p = vy x := ⟨_, rfl⟩
      rw [← hz1, ← hz2] at HPT HPV
      have HGS := Lib.hid hgs
      have HGL := Lib.hid (show (genG j X Y).length ≤ 1048576 by rw [genG_length]; omega)
      have HO := Lib.hid hown
      have HB := Lib.hid hbel
      have h0 : (0 : Int) ≤ (j : Int) := by omega
      have h1 : (j : Int) < (n : Int) := by omega
      clear hc hltl hxd hx hxy hgs hown hbel hp hq hz1 hz2
      go_wp2_with fail
      refine (HPV.out _).mono ?_
      rintro e w2 ⟨rfl, hb⟩
      have HB2 := Lib.hid (joins HB.out hb)
      have HO2 := Lib.hid (HO.out.below hb)
      clear hb c1
      go_wp2_with fail
      refine (HPT.out _).mono ?_
      rintro e w3 ⟨rfl, hb⟩
      have HB3 := Lib.hid (joins HB2.out hb)
      have HO3 := Lib.hid (HO2.out.below hb)
      clear hb
      go_wp2_with (at_builtin; refine wpList_pushG rfl _ _ rfl w.heap.size _ (genG j X Y) rfl (HO3.out.alloc _) w3.heap.size 1 p q rfl (cell_new0 _ _ _ _) (cell_new1 _ _ _ _) HGL.out w.heap.size w (HB3.out.alloc HB3.out.size _) (Nat.le_refl _) (by have := HB3.out.size; simp; omega) (by have := HB3.out.size; simp; omega) ?_; intro v4 w4 ho4 hb4)
      go_roundw
      case rel => exact ⟨j + 1, by omega, by go_num, by rw [HGS.out]; assumption, by assumption⟩
      case measure => simp [intOf]; omega
    · obtain rfl : j = n := by omega
      have HO := Lib.hid hown
      have HB := Lib.hid hbel
      clear hown hbel
      go_wp2_with fail
      go_returns
      exact ⟨_, rfl, HO.out, HB.out⟩

set_option maxHeartbeats 1000000 in
theorem sPointsOf (v : Value) (s : List Int) (k : Int) (w : World) (hv : IS w v s) (hlen : s.length ≤ 1048576) : Calls Try.prog 10 #[v, .int .i64 k] w (MakesGB w (poF s k) (poOk s k)) := by
  have hok : poOk s k = (isSeq s && inB k 1 1000) := rfl
  have HP := Lib.hid (phIs_any v s w hv hlen)
  have HIN := Lib.hid (l1In_any k 1 1000)
  obtain ⟨a, cap, hveq⟩ := hv.slice
  subst hveq
  cases hs : isSeq s with
  | false =>
    have ho : poOk s k = false := by rw [hok, hs]; rfl
    have hf : poF s k = [] := by unfold poF; rw [ho]; rfl
    rw [ho, hf]
    rw [hs] at HP
    clear hok hs ho hf hv
    go_enter Try.func10, Try.ntmps10
    go_wp2_with fail
    refine (HP.out).mono ?_
    rintro e w1 ⟨rfl, hb⟩
    go_wp2_with fail
    go_returns
    exact ⟨_, rfl, OwnG.nil _ _, hb⟩
  | true =>
    rw [hs] at HP
    cases hk : inB k 1 1000 with
    | false =>
      have ho : poOk s k = false := by rw [hok, hs, hk]; rfl
      have hf : poF s k = [] := by unfold poF; rw [ho]; rfl
      rw [ho, hf]
      rw [hk] at HIN
      clear hok hs ho hf hv hk
      go_enter Try.func10, Try.ntmps10
      go_wp2_with fail
      refine (HP.out).mono ?_
      rintro e w1 ⟨rfl, hb⟩
      go_wp2_with (refine (HIN.out _).mono ?_; rintro e w' ⟨rfl, rfl⟩)
      go_returns
      exact ⟨_, rfl, OwnG.nil _ _, hb⟩
    | true =>
      have ho : poOk s k = true := by rw [hok, hs, hk]; rfl
      have hf : poF s k = scL s k := by unfold poF; rw [ho]; rfl
      have hk2 : 1 ≤ k ∧ k ≤ 1000 := by simpa [inB] using hk
      have hl := isSeq_len hs
      rw [ho, hf]
      rw [hk] at HIN
      have HV := Lib.hid hv
      have HM := Lib.hid (fun w (h : IS w (.slice a s.length cap) s) => mdPoints_any _ s k w h (isSeq_all hs) (by omega) hk2)
      obtain ⟨L, hL⟩ : ∃ L, L = scL s k := ⟨_, rfl⟩
      rw [← hL] at HM ⊢
      clear hok hs ho hf hv hk hk2 hL hl
      go_enter Try.func10, Try.ntmps10
      go_wp2_with fail
      refine (HP.out).mono ?_
      rintro e w1 ⟨rfl, hb⟩
      have HB1 := Lib.hid hb
      clear hb
      go_wp2_with (refine (HIN.out _).mono ?_; rintro e w' ⟨rfl, rfl⟩)
      refine (HM.out _ (HV.out.below HB1.out)).mono ?_
      rintro e w2 ⟨v2, rfl, ho2, hb2⟩
      have HB2 := Lib.hid (joins HB1.out hb2)
      have HO2 := Lib.hid (OwnG.mono ho2 HB1.out.size)
      clear ho2 hb2
      go_wp2_with fail
      go_returns
      exact ⟨_, rfl, HO2.out, HB2.out⟩

set_option maxRecDepth 100000 in
set_option maxHeartbeats 4000000 in
theorem mdTurn_any (v : Value) (l : List (Int × Int)) (k : Int) (w : World) (hv : IG w v l) (hg : goodL l = true) (hlen : l.length ≤ 64) (hk : 0 ≤ k ∧ k ≤ 3) : Calls Try.prog 40 #[v, .int .i64 k] w (MakesG w (tuL l k)) := by
  obtain ⟨a, cap, hveq⟩ := hv.slice
  subst hveq
  have HV := Lib.hid hv
  have HPV := Lib.hid (phValue_any k hk.1 hk.2)
  have HPT0 := Lib.hid (fun (i : Nat) (hi : i < l.length) (w : World) => show Calls Try.prog 72 #[.agg #[.int .i64 (gre l i), .int .i64 (gim l i)], .agg #[.int .i64 (vx k), .int .i64 (vy k)]] w (Ret w (.agg #[.int .i64 (tuX (gre l) (gim l) k i), .int .i64 (tuY (gre l) (gim l) k i)])) from by
    have h1 := vx_one k
    have h2 := vy_one k
    have hgi := good_in (goodL_at hg i hi)
    exact phTimesB_any (gre l i) (gim l i) (vx k) (vy k) hgi.1 hgi.2 (by omega) (by omega) w)
  obtain ⟨X, hX⟩ : ∃ X, X = tuX (gre l) (gim l) k := ⟨_, rfl⟩
  obtain ⟨Y, hY⟩ : ∃ X, X = tuY (gre l) (gim l) k := ⟨_, rfl⟩
  obtain ⟨z1, hz1⟩ : ∃ p, p = vx k := ⟨_, rfl⟩
  obtain ⟨z2, hz2⟩ : ∃ p, p = vy k := ⟨_, rfl⟩
  rw [← hX, ← hY, ← hz1, ← hz2] at HPT0
  rw [← hz1, ← hz2] at HPV
  obtain ⟨n, hn⟩ : ∃ n, n = l.length := ⟨_, rfl⟩
  have hgoal : tuL l k = genG n X Y := by rw [hn, hX, hY]; rfl
  rw [hgoal]
  rw [← hn] at HV hlen ⊢
  have HN := Lib.hid hn
  obtain ⟨hk1, hk2⟩ := hk
  clear hX hY hn hv hg hgoal hz1 hz2
  go_enter Try.func40, Try.ntmps40
  go_wp2_with fail
  go_loopw [10, 5] (fun i o wr => ∃ j : Nat, j ≤ n ∧ i = .int .i64 j ∧ OwnG wr w.heap.size o (genG j X Y) ∧ Below w.heap.size w wr) (fun i _ _ => n - (intOf i).toNat)
  case atStart => exact ⟨0, Nat.zero_le _, rfl, OwnG.nil _ _, Below.refl _ _⟩
  case round =>
    obtain ⟨j, hj, rfl, hown, hbel⟩ := hrel
    by_cases hlt : j < n
    · have hltl : j < l.length := by rw [← HN.out]; exact hlt
      rcases HV.out.below hbel with ⟨h0', _⟩ | ⟨_, b, off, cap', hveq, _, hc⟩
      · rw [h0'] at hltl; exact absurd hltl (Nat.not_lt_zero _)
      simp only [Value.slice.injEq] at hveq
      obtain ⟨rfl, hnn, rfl⟩ := hveq
      clear hnn
      have c1 := (hc j hltl).1
      have c2 := (hc j hltl).2
      have HPT := Lib.hid (HPT0.out j hltl)
      have hgs := genG_succ j X Y
      obtain ⟨x, hx⟩ : ∃ x, x = gre l j := ⟨_, rfl⟩
      obtain ⟨y, hy⟩ : ∃ y, y = gim l j := ⟨_, rfl⟩
      obtain ⟨p, hp⟩ : ∃ p, p = X j := ⟨_, rfl⟩
      obtain ⟨q, hq⟩ : ∃ p, p = Y j := ⟨_, rfl⟩
      rw [← hx] at c1
      rw [← hy] at c2
      rw [← hx, ← hy, ← hp, ← hq] at HPT
      rw [← hp, ← hq] at hgs
      have HGS := Lib.hid hgs
      have HGL := Lib.hid (show (genG j X Y).length ≤ 1048576 by rw [genG_length]; omega)
      have HB := Lib.hid hbel
      have h0 : (0 : Int) ≤ (j : Int) := by omega
      have h1 : (j : Int) < (n : Int) := by omega
      have HO1a := Lib.hid (hown.alloc (.cells #[.int .i64 x, .int .i64 y] 51))
      have HB1a := Lib.hid (belowa hbel (.cells #[.int .i64 x, .int .i64 y] 51))
      have HC1a := Lib.hid (cell_new0 wr (.int .i64 x) (.int .i64 y) 51)
      have HC2a := Lib.hid (cell_new1 wr (.int .i64 x) (.int .i64 y) 51)
      have HNE := Lib.hid (show u5.ownBlock ≠ some wr.heap.size from fun e => by have := (hown.lt _ e).2; omega)
      clear hc hltl hx hy hp hq hgs hown hbel
      go_wp2_with fail
      obtain ⟨w5, hw5⟩ : ∃ w', w' = wr.alloc (.cells #[.int .i64 x, .int .i64 y] 51) := ⟨_, rfl⟩
      have HO1 := Lib.hid (show OwnG w5 w.heap.size u5 (genG j X Y) from by rw [hw5]; exact HO1a.out)
      have HB1 := Lib.hid (show Below w.heap.size w w5 from by rw [hw5]; exact HB1a.out)
      have HC1 := Lib.hid (show w5.cell? ⟨wr.heap.size, 0, none⟩ = some (.int .i64 x) from by rw [hw5]; exact HC1a.out)
      have HC2 := Lib.hid (show w5.cell? ⟨wr.heap.size, 1, none⟩ = some (.int .i64 y) from by rw [hw5]; exact HC2a.out)
      rw [← hw5]
      clear hw5 HO1a HB1a HC1a HC2a c1 c2
      refine wp_region_held_drew (S := (fun w' => World.grownBy w5 w' u5.ownBlock)) (by kernel_rfl) (grownDrew (World.grownBy.refl _ _)) ?_
      obtain ⟨d1, hdw⟩ : ∃ w', w' = w5.drew := ⟨_, rfl⟩
      rw [← hdw]
      have hb : Below w5.heap.size w5 d1 := by rw [hdw]; exact belowN (Below.refl _ _) 1
      have F1_O := Lib.hid (HO1.out.below hb)
      have F1_B := Lib.hid (joins HB1.out hb)
      clear hdw hb
      intro hHeld
      refine' wpAnyH_take (i := 0) (v := _) rfl (by kernel_rfl) (by kernel_rfl) (by kernel_rfl) (fun _ _ _ h => h) (Or.inl ⟨by rfl, ?hy1⟩) (by assumption) ?rest1
      case hy1 =>
        intro w h
        (try clear h)
        go_simp
        (try with_reducible rfl)
      (try simp only [Act.put, List.getElem_toArray, List.getElem_cons_zero, List.setIfInBounds_toArray, List.set_cons_zero, List.set_cons_succ])
      refine' wpAnyH_take (i := 1) (v := _) rfl (by kernel_rfl) (by kernel_rfl) (by kernel_rfl) (fun _ _ _ h => h) (Or.inl ⟨by rfl, ?hy2⟩) (by assumption) ?rest2
      case hy2 =>
        intro w h
        have c1 := cellR h HC1.out HNE.out
        have c2 := cellR h HC2.out HNE.out
        (try clear h)
        go_simp
        (try with_reducible rfl)
      (try simp only [Act.put, List.getElem_toArray, List.getElem_cons_zero, List.getElem_cons_succ, List.setIfInBounds_toArray, List.set_cons_zero, List.set_cons_succ])
      refine' wpAnyH_take (i := 2) (v := _) rfl (by kernel_rfl) (by kernel_rfl) (by kernel_rfl) (fun _ _ _ h => h) (Or.inl ⟨by rfl, ?hy3⟩) (by assumption) ?rest3
      case hy3 =>
        intro w h
        (try clear h)
        go_simp
        (try with_reducible rfl)
      (try simp only [Act.put, List.getElem_toArray, List.getElem_cons_zero, List.getElem_cons_succ, List.setIfInBounds_toArray, List.set_cons_zero, List.set_cons_succ])
      refine wpAnyH_ready (rs := [3]) (by kernel_rfl) (by simp) ?_
      refine AllReadyH.cons rfl (fun K hK => ?_) AllReadyH.nil
      go_simp
      refine (HPV.out _).mono ?_
      rintro e d2 ⟨rfl, hb⟩
      have F2_O := Lib.hid (F1_O.out.below hb)
      have F2_B := Lib.hid (joins F1_B.out hb)
      have hHeld := grownB hHeld hb
      clear hb
      refine hK.out _ _ hHeld (fun hHeld => ?_)
      clear hK K
      (try simp only [Act.put, List.getElem_toArray, List.getElem_cons_zero, List.getElem_cons_succ, List.setIfInBounds_toArray, List.set_cons_zero, List.set_cons_succ])
      refine wpAnyH_ready (rs := [4]) (by kernel_rfl) (by simp) ?_
      refine AllReadyH.cons rfl (fun K hK => ?_) AllReadyH.nil
      go_simp
      refine (HPT.out _).mono ?_
      rintro e d3 ⟨rfl, hb⟩
      have F3_O := Lib.hid (F2_O.out.below hb)
      have F3_B := Lib.hid (joins F2_B.out hb)
      have hHeld := grownB hHeld hb
      clear hb
      refine hK.out _ _ hHeld (fun hHeld => ?_)
      clear hK K
      (try simp only [Act.put, List.getElem_toArray, List.getElem_cons_zero, List.getElem_cons_succ, List.setIfInBounds_toArray, List.set_cons_zero, List.set_cons_succ])
      refine wpAnyH_ready (rs := [5]) (by kernel_rfl) (by simp) ?_
      refine AllReadyH.cons rfl (fun K hK => ?_) AllReadyH.nil
      go_simp
      refine hK.out _ _ (grownA hHeld _) (fun hHeld => ?_)
      clear hK K
      (try simp only [Act.put, List.getElem_toArray, List.getElem_cons_zero, List.getElem_cons_succ, List.setIfInBounds_toArray, List.set_cons_zero, List.set_cons_succ])
      refine wpAnyH_ready (rs := [6]) (by kernel_rfl) (by simp) ?_
      refine AllReadyH.cons rfl (fun K hK => ?_) AllReadyH.nil
      refine step_pushG rfl (.tmp 14) (.tmp 19) rfl w.heap.size _ (genG j X Y) rfl (F3_O.out.alloc _) d3.heap.size 1 p q rfl (cell_new0 _ _ _ _) (cell_new1 _ _ _ _) HGL.out w.heap.size w (F3_B.out.alloc F3_B.out.size _) (Nat.le_refl _) (by have := F3_B.out.size; simp; omega) (by have := F3_B.out.size; simp; omega) ?_
      intro v2 w2 ho2 hb2 hg2
      have HO2_ := Lib.hid ho2
      have HB2_ := Lib.hid hb2
      refine hK.out _ _ (grown_trans hHeld hg2) (fun hHeld => ?_)
      clear ho2 hb2 hg2
      clear hK K
      (try simp only [Act.put, List.getElem_toArray, List.getElem_cons_zero, List.getElem_cons_succ, List.setIfInBounds_toArray, List.set_cons_zero, List.set_cons_succ])
      refine' wpAnyH_take (i := 7) (v := _) rfl (by kernel_rfl) (by kernel_rfl) (by kernel_rfl) (fun _ _ _ h => h) (Or.inl ⟨by rfl, ?hy4⟩) (by assumption) ?rest4
      case hy4 =>
        intro w h
        (try clear h)
        go_simp
        (try with_reducible rfl)
      (try simp only [Act.put, List.getElem_toArray, List.getElem_cons_zero, List.getElem_cons_succ, List.setIfInBounds_toArray, List.set_cons_zero, List.set_cons_succ])
      refine wpAnyH_done (by kernel_rfl) ?_ _
      go_wp2_with fail
      go_roundw
      case rel => exact ⟨j + 1, by omega, by go_num, by rw [HGS.out]; exact HO2_.out, HB2_.out⟩
      case measure => simp [intOf]; omega
    · obtain rfl : j = n := by omega
      have HO := Lib.hid hown
      have HB := Lib.hid hbel
      clear hown hbel
      go_wp2_with fail
      go_returns
      exact ⟨_, rfl, HO.out, HB.out⟩

set_option maxHeartbeats 1000000 in
theorem sTurnPoints (v : Value) (l : List (Int × Int)) (k : Int) (w : World) (hv : IG w v l) (hlen : l.length ≤ 1048576) : Calls Try.prog 19 #[v, .int .i64 k] w (MakesGB w (tpF l k) (tpOk l k)) := by
  have hok : tpOk l k = (sgOk l && inB k 0 3) := rfl
  have HP := Lib.hid (mdSignal_any v l w hv hlen)
  have HIN := Lib.hid (l1In_any k 0 3)
  obtain ⟨a, cap, hveq⟩ := hv.slice
  subst hveq
  cases hs : sgOk l with
  | false =>
    have ho : tpOk l k = false := by rw [hok, hs]; rfl
    have hf : tpF l k = [] := by unfold tpF; rw [ho]; rfl
    rw [ho, hf]
    rw [hs] at HP
    clear hok hs ho hf hv
    go_enter Try.func19, Try.ntmps19
    go_wp2_with fail
    refine (HP.out).mono ?_
    rintro e w1 ⟨rfl, hb⟩
    go_wp2_with fail
    go_returns
    exact ⟨_, rfl, OwnG.nil _ _, hb⟩
  | true =>
    rw [hs] at HP
    cases hk : inB k 0 3 with
    | false =>
      have ho : tpOk l k = false := by rw [hok, hs, hk]; rfl
      have hf : tpF l k = [] := by unfold tpF; rw [ho]; rfl
      rw [ho, hf]
      rw [hk] at HIN
      clear hok hs ho hf hv hk
      go_enter Try.func19, Try.ntmps19
      go_wp2_with fail
      refine (HP.out).mono ?_
      rintro e w1 ⟨rfl, hb⟩
      go_wp2_with (refine (HIN.out _).mono ?_; rintro e w' ⟨rfl, rfl⟩)
      go_returns
      exact ⟨_, rfl, OwnG.nil _ _, hb⟩
    | true =>
      have ho : tpOk l k = true := by rw [hok, hs, hk]; rfl
      have hf : tpF l k = tuL l k := by unfold tpF; rw [ho]; rfl
      have hk2 : 0 ≤ k ∧ k ≤ 3 := by simpa [inB] using hk
      have hl := sgOk_len hs
      rw [ho, hf]
      rw [hk] at HIN
      have HV := Lib.hid hv
      have HM := Lib.hid (fun w (h : IG w (.slice a l.length cap) l) => mdTurn_any _ l k w h (sgOk_good hs) (by omega) hk2)
      obtain ⟨L, hL⟩ : ∃ L, L = tuL l k := ⟨_, rfl⟩
      rw [← hL] at HM ⊢
      clear hok hs ho hf hv hk hk2 hL hl
      go_enter Try.func19, Try.ntmps19
      go_wp2_with fail
      refine (HP.out).mono ?_
      rintro e w1 ⟨rfl, hb⟩
      have HB1 := Lib.hid hb
      clear hb
      go_wp2_with (refine (HIN.out _).mono ?_; rintro e w' ⟨rfl, rfl⟩)
      refine (HM.out _ (HV.out.below HB1.out)).mono ?_
      rintro e w2 ⟨v2, rfl, ho2, hb2⟩
      have HB2 := Lib.hid (joins HB1.out hb2)
      have HO2 := Lib.hid (OwnG.mono ho2 HB1.out.size)
      clear ho2 hb2
      go_wp2_with fail
      go_returns
      exact ⟨_, rfl, HO2.out, HB2.out⟩
end Go.Proofs.Ytoehehaeanepmab
