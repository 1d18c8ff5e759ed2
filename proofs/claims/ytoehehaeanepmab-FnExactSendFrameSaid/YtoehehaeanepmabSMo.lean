/- The model's bits and steps: mdBits, mdModulate, mdBack, mdSteps; ModulateBits, DemodulatePhases, StepsOf. -/
import Derived.Test.YtoehehaeanepmabMoM
import Derived.Test.YtoehehaeanepmabSMov
import Derived.Test.YtoehehaeanepmabSCr
import Derived.Test.YtoehehaeanepmabApp
namespace Go.Proofs.Ytoehehaeanepmab
set_option maxRecDepth 100000
open Go.RowKit

set_option maxHeartbeats 400000 in
theorem mdBits_any (v : Value) (l : List Int) (w : World) (hv : IS w v l) (hl : l.length ≤ 1048576) : Calls Try.prog 52 #[v] w (Ret w (.bool (bsOk l))) := by
  have hvv := hv
  obtain ⟨a, cap, rfl⟩ := hv.slice
  by_cases h : l.length ≤ 64
  · go_enter Try.func52, Try.ntmps52
    go_wp2_with (go_at_call 71; refine (l1All_any _ l _ _ _ hvv).mono ?_; rintro e w' ⟨rfl, hb⟩)
    go_returns
    exact ⟨ret_bool (by simp [bsOk, h]), ‹_›⟩
  · go_enter Try.func52, Try.ntmps52
    go_wp2_with fail
    go_returns
    exact ⟨ret_bool (by simp [bsOk, h]), by go_grown⟩

set_option maxRecDepth 100000 in
set_option maxHeartbeats 2000000 in
theorem mdModulate_any (v : Value) (l : List Int) (w : World) (hv : IS w v l) (hs : seOk l = true) : Calls Try.prog 54 #[v] w (Makes w (moL l)) := by
  have h64 := bsOk_len (seOk_bs hs)
  have hev := seOk_even hs
  have HAT := Lib.hid (fun k hk => bsOk_at (seOk_bs hs) k hk)
  obtain ⟨a, cap, hveq⟩ := hv.slice
  subst hveq
  have HV := Lib.hid hv
  obtain ⟨N, hN⟩ : ∃ N, N = l.length := ⟨_, rfl⟩
  obtain ⟨G, hG⟩ : ∃ G : Nat → Int, G = moT l := ⟨_, rfl⟩
  have hgoal : moL l = gen (N / 2) G := by rw [hN, hG]; rfl
  rw [hgoal]
  rw [← hN] at HV ⊢
  have HN := Lib.hid hN
  have HG := Lib.hid hG
  rw [← hN] at h64 hev
  clear hgoal hN hG hs hv
  go_enter Try.func54, Try.ntmps54
  go_wp2_with fail
  go_loopw [4, 3] (fun i o wr => ∃ j : Nat, 2 * j ≤ N ∧ i = .int .i64 ((2 * j : Nat) : Int) ∧ Own wr w.heap.size o (gen j G) ∧ Below w.heap.size w wr) (fun i _ _ => N - (intOf i).toNat)
  case atStart => exact ⟨0, by omega, rfl, World.ownsRow_nil _ _ _ _, Below.refl _ _⟩
  case round =>
    obtain ⟨j, hj, rfl, hown, hbel⟩ := hrel
    obtain ⟨p, hp⟩ : ∃ p, p = 2 * j := ⟨_, rfl⟩
    rw [← hp]
    by_cases hlt : 2 * j < N
    · have hltl : p < l.length := by rw [← HN.out]; omega
      have hltl2 : p + 1 < l.length := by rw [← HN.out]; omega
      rcases HV.out with ⟨h0', _⟩ | ⟨_, b, off, cap', hveq, _, hc⟩
      · rw [h0'] at hltl; exact absurd hltl (Nat.not_lt_zero _)
      simp only [Value.slice.injEq] at hveq
      obtain ⟨rfl, hnn, rfl⟩ := hveq
      clear hnn
      have cw := hc p hltl
      have cw2 := hc (p + 1) hltl2
      clear hc
      obtain ⟨hx1, hx2⟩ := HAT.out p hltl
      obtain ⟨hy1, hy2⟩ := HAT.out (p + 1) hltl2
      have hgj : G j = 2 * l.getD p 0 + (l.getD p 0 + l.getD (p + 1) 0) % 2 := by rw [HG.out, hp]; rfl
      have hgs := gen_succ j G
      rw [hgj] at hgs
      obtain ⟨x, hxd⟩ : ∃ x, x = l.getD p 0 := ⟨_, rfl⟩
      obtain ⟨y, hyd⟩ : ∃ y, y = l.getD (p + 1) 0 := ⟨_, rfl⟩
      rw [← hxd] at cw hx1 hx2 hgs
      rw [← hyd] at cw2 hy1 hy2 hgs
      have hq : (x + y).tmod 2 = (x + y) % 2 := Int.tmod_eq_emod_of_nonneg (by omega)
      have q1 : 0 ≤ (x + y) % 2 ∧ (x + y) % 2 ≤ 1 := by omega
      rw [← hq] at hgs q1
      obtain ⟨q1, q2⟩ := q1
      obtain ⟨r, hr⟩ : ∃ r, r = (x + y).tmod 2 := ⟨_, rfl⟩
      rw [← hr] at hgs q1 q2
      have hr2 := hr.symm
      have HC1 := Lib.hid (keepc hbel cw)
      have HC2 := Lib.hid (keepc hbel cw2)
      have HNE := Lib.hid (hown.ne (World.block_lt_of_cell? w _ cw))
      have HGS := Lib.hid hgs
      have HGL := Lib.hid (show (gen j G).length ≤ 1048576 by rw [gen_length]; omega)
      have HO := Lib.hid hown
      have HB := Lib.hid hbel
      have h0 : (0 : Int) ≤ (p : Int) := by omega
      have h1a : (p : Int) < (N : Int) := by omega
      have h1 : (p : Int) + 1 < (N : Int) := by omega
      have hn64 : (N : Int) ≤ 64 := by omega
      have HPE := Lib.hid hp
      have HW := Lib.hid (show IntKind.i64.wrap ((p : Int) + 1) = (p : Int) + 1 from wrI _ ⟨by omega, by omega⟩)
      have HW2 := Lib.hid (show IntKind.i64.wrap (2 * x) = 2 * x from wrI _ ⟨by omega, by omega⟩)
      have HW3 := Lib.hid (show IntKind.i64.wrap (x + y) = x + y from wrI _ ⟨by omega, by omega⟩)
      have HW4 := Lib.hid (show IntKind.i64.wrap (2 * x + r) = 2 * x + r from wrI _ ⟨by omega, by omega⟩)
      have HR2 := Lib.hid hr2
      have HEV := Lib.hid hev
      clear hr2
      have h0b : (0 : Int) ≤ (p : Int) + 1 := by omega
      clear hxd hyd hgj hgs hown hbel cw cw2 hltl hltl2 hq hr hp hev
      go_wp2_with fail
      refine wp_region_held_drew (S := (fun w' => World.grownBy wr w' u3.ownBlock)) (by kernel_rfl) (grownDrew (World.grownBy.refl _ _)) ?_
      obtain ⟨d1, hdw⟩ : ∃ w', w' = wr.drew := ⟨_, rfl⟩
      rw [← hdw]
      have hb : Below wr.heap.size wr d1 := by rw [hdw]; exact belowN (Below.refl _ _) 1
      have F1_O := Lib.hid (HO.out.below hb)
      have F1_B := Lib.hid (joins HB.out hb)
      clear hdw hb
      intro hHeld
      refine' wpAnyH_take (i := 0) (v := _) rfl (by kernel_rfl) (by kernel_rfl) (by kernel_rfl) (fun _ _ _ h => h) (Or.inl ⟨by rfl, ?hy1⟩) (by assumption) ?rest1
      case hy1 =>
        intro w h
        (try clear h)
        go_simp
        (try with_reducible rfl)
      (try simp only [Act.put, List.getElem_toArray, List.getElem_cons_zero, List.setIfInBounds_toArray, List.set_cons_zero, List.set_cons_succ])
      refine' wpAnyH_take (i := 1) (v := _) rfl (by kernel_rfl) (by kernel_rfl) (by kernel_rfl) (fun _ _ _ h => h) (Or.inl ⟨by rfl, ?hy2⟩) (by assumption) ?rest2
      case hy2 =>
        intro w h
        (try clear h)
        go_simp
        (try with_reducible rfl)
      (try simp only [Act.put, List.getElem_toArray, List.getElem_cons_zero, List.getElem_cons_succ, List.setIfInBounds_toArray, List.set_cons_zero, List.set_cons_succ])
      refine' wpAnyH_take (i := 2) (v := _) rfl (by kernel_rfl) (by kernel_rfl) (by kernel_rfl) (fun _ _ _ h => h) (Or.inl ⟨by rfl, ?hy3⟩) (by assumption) ?rest3
      case hy3 =>
        intro w h
        (try clear h)
        go_simp
        (try with_reducible rfl)
      (try simp only [Act.put, List.getElem_toArray, List.getElem_cons_zero, List.getElem_cons_succ, List.setIfInBounds_toArray, List.set_cons_zero, List.set_cons_succ])
      refine' wpAnyH_take (i := 3) (v := _) rfl (by kernel_rfl) (by kernel_rfl) (by kernel_rfl) (fun _ _ _ h => h) (Or.inl ⟨by rfl, ?hy4⟩) (by assumption) ?rest4
      case hy4 =>
        intro w h
        (try clear h)
        go_simp
        (try with_reducible rfl)
      (try simp only [Act.put, List.getElem_toArray, List.getElem_cons_zero, List.getElem_cons_succ, List.setIfInBounds_toArray, List.set_cons_zero, List.set_cons_succ])
      refine' wpAnyH_take (i := 4) (v := _) rfl (by kernel_rfl) (by kernel_rfl) (by kernel_rfl) (fun _ _ _ h => h) (Or.inl ⟨by rfl, ?hy5⟩) (by assumption) ?rest5
      case hy5 =>
        intro w h
        have c1 := cellR h HC1.out HNE.out
        (try clear h)
        go_simp
        (try with_reducible rfl)
      (try simp only [Act.put, List.getElem_toArray, List.getElem_cons_zero, List.getElem_cons_succ, List.setIfInBounds_toArray, List.set_cons_zero, List.set_cons_succ])
      refine' wpAnyH_take (i := 5) (v := _) rfl (by kernel_rfl) (by kernel_rfl) (by kernel_rfl) (fun _ _ _ h => h) (Or.inl ⟨by rfl, ?hy6⟩) (by assumption) ?rest6
      case hy6 =>
        intro w h
        have e1 := HW2.out
        (try clear h)
        go_simp
        (try with_reducible rfl)
      (try simp only [Act.put, List.getElem_toArray, List.getElem_cons_zero, List.getElem_cons_succ, List.setIfInBounds_toArray, List.set_cons_zero, List.set_cons_succ])
      refine' wpAnyH_take (i := 6) (v := _) rfl (by kernel_rfl) (by kernel_rfl) (by kernel_rfl) (fun _ _ _ h => h) (Or.inl ⟨by rfl, ?hy7⟩) (by assumption) ?rest7
      case hy7 =>
        intro w h
        (try clear h)
        go_simp
        (try with_reducible rfl)
      (try simp only [Act.put, List.getElem_toArray, List.getElem_cons_zero, List.getElem_cons_succ, List.setIfInBounds_toArray, List.set_cons_zero, List.set_cons_succ])
      refine' wpAnyH_take (i := 7) (v := _) rfl (by kernel_rfl) (by kernel_rfl) (by kernel_rfl) (fun _ _ _ h => h) (Or.inl ⟨by rfl, ?hy8⟩) (by assumption) ?rest8
      case hy8 =>
        intro w h
        (try clear h)
        go_simp
        (try with_reducible rfl)
      (try simp only [Act.put, List.getElem_toArray, List.getElem_cons_zero, List.getElem_cons_succ, List.setIfInBounds_toArray, List.set_cons_zero, List.set_cons_succ])
      refine' wpAnyH_take (i := 8) (v := _) rfl (by kernel_rfl) (by kernel_rfl) (by kernel_rfl) (fun _ _ _ h => h) (Or.inl ⟨by rfl, ?hy9⟩) (by assumption) ?rest9
      case hy9 =>
        intro w h
        (try clear h)
        go_simp
        (try with_reducible rfl)
      (try simp only [Act.put, List.getElem_toArray, List.getElem_cons_zero, List.getElem_cons_succ, List.setIfInBounds_toArray, List.set_cons_zero, List.set_cons_succ])
      refine' wpAnyH_take (i := 9) (v := _) rfl (by kernel_rfl) (by kernel_rfl) (by kernel_rfl) (fun _ _ _ h => h) (Or.inl ⟨by rfl, ?hy10⟩) (by assumption) ?rest10
      case hy10 =>
        intro w h
        have c1 := cellR h HC1.out HNE.out
        (try clear h)
        go_simp
        (try with_reducible rfl)
      (try simp only [Act.put, List.getElem_toArray, List.getElem_cons_zero, List.getElem_cons_succ, List.setIfInBounds_toArray, List.set_cons_zero, List.set_cons_succ])
      refine' wpAnyH_take (i := 10) (v := _) rfl (by kernel_rfl) (by kernel_rfl) (by kernel_rfl) (fun _ _ _ h => h) (Or.inl ⟨by rfl, ?hy11⟩) (by assumption) ?rest11
      case hy11 =>
        intro w h
        (try clear h)
        go_simp
        (try with_reducible rfl)
      (try simp only [Act.put, List.getElem_toArray, List.getElem_cons_zero, List.getElem_cons_succ, List.setIfInBounds_toArray, List.set_cons_zero, List.set_cons_succ])
      refine' wpAnyH_take (i := 11) (v := _) rfl (by kernel_rfl) (by kernel_rfl) (by kernel_rfl) (fun _ _ _ h => h) (Or.inl ⟨by rfl, ?hy12⟩) (by assumption) ?rest12
      case hy12 =>
        intro w h
        (try clear h)
        go_simp
        (try with_reducible rfl)
      (try simp only [Act.put, List.getElem_toArray, List.getElem_cons_zero, List.getElem_cons_succ, List.setIfInBounds_toArray, List.set_cons_zero, List.set_cons_succ])
      refine' wpAnyH_take (i := 12) (v := _) rfl (by kernel_rfl) (by kernel_rfl) (by kernel_rfl) (fun _ _ _ h => h) (Or.inl ⟨by rfl, ?hy13⟩) (by assumption) ?rest13
      case hy13 =>
        intro w h
        (try clear h)
        go_simp
        (try with_reducible rfl)
      (try simp only [Act.put, List.getElem_toArray, List.getElem_cons_zero, List.getElem_cons_succ, List.setIfInBounds_toArray, List.set_cons_zero, List.set_cons_succ])
      refine' wpAnyH_take (i := 13) (v := _) rfl (by kernel_rfl) (by kernel_rfl) (by kernel_rfl) (fun _ _ _ h => h) (Or.inl ⟨by rfl, ?hy14⟩) (by assumption) ?rest14
      case hy14 =>
        intro w h
        have e1 := HW.out
        (try clear h)
        go_simp
        (try with_reducible rfl)
      (try simp only [Act.put, List.getElem_toArray, List.getElem_cons_zero, List.getElem_cons_succ, List.setIfInBounds_toArray, List.set_cons_zero, List.set_cons_succ])
      refine' wpAnyH_take (i := 14) (v := _) rfl (by kernel_rfl) (by kernel_rfl) (by kernel_rfl) (fun _ _ _ h => h) (Or.inl ⟨by rfl, ?hy15⟩) (by assumption) ?rest15
      case hy15 =>
        intro w h
        have c2 := cellR h HC2.out HNE.out
        (try clear h)
        go_simp
        (try with_reducible rfl)
      (try simp only [Act.put, List.getElem_toArray, List.getElem_cons_zero, List.getElem_cons_succ, List.setIfInBounds_toArray, List.set_cons_zero, List.set_cons_succ])
      refine' wpAnyH_take (i := 15) (v := _) rfl (by kernel_rfl) (by kernel_rfl) (by kernel_rfl) (fun _ _ _ h => h) (Or.inl ⟨by rfl, ?hy16⟩) (by assumption) ?rest16
      case hy16 =>
        intro w h
        have e1 := HW3.out
        (try clear h)
        go_simp
        (try with_reducible rfl)
      (try simp only [Act.put, List.getElem_toArray, List.getElem_cons_zero, List.getElem_cons_succ, List.setIfInBounds_toArray, List.set_cons_zero, List.set_cons_succ])
      refine' wpAnyH_take (i := 16) (v := _) rfl (by kernel_rfl) (by kernel_rfl) (by kernel_rfl) (fun _ _ _ h => h) (Or.inl ⟨by rfl, ?hy17⟩) (by assumption) ?rest17
      case hy17 =>
        intro w h
        have e1 := HR2.out
        (try clear h)
        go_simp
        (try with_reducible rfl)
      (try simp only [Act.put, List.getElem_toArray, List.getElem_cons_zero, List.getElem_cons_succ, List.setIfInBounds_toArray, List.set_cons_zero, List.set_cons_succ])
      refine' wpAnyH_take (i := 17) (v := _) rfl (by kernel_rfl) (by kernel_rfl) (by kernel_rfl) (fun _ _ _ h => h) (Or.inl ⟨by rfl, ?hy18⟩) (by assumption) ?rest18
      case hy18 =>
        intro w h
        have e1 := HW4.out
        (try clear h)
        go_simp
        (try with_reducible rfl)
      (try simp only [Act.put, List.getElem_toArray, List.getElem_cons_zero, List.getElem_cons_succ, List.setIfInBounds_toArray, List.set_cons_zero, List.set_cons_succ])
      refine wpAnyH_ready (rs := [18]) (by kernel_rfl) (by simp) ?_
      refine AllReadyH.cons rfl (fun K hK => ?_) AllReadyH.nil
      go_simp
      refine hK.out _ _ (grownA hHeld _) (fun hHeld => ?_)
      clear hK K
      (try simp only [Act.put, List.getElem_toArray, List.getElem_cons_zero, List.getElem_cons_succ, List.setIfInBounds_toArray, List.set_cons_zero, List.set_cons_succ])
      refine wpAnyH_ready (rs := [19]) (by kernel_rfl) (by simp) ?_
      refine AllReadyH.cons rfl (fun K hK => ?_) AllReadyH.nil
      refine step_push rfl (.tmp 12) (.tmp 30) rfl w.heap.size _ (gen j G) rfl (F1_O.out.alloc _) d1.heap.size 1 _ rfl (cell_new_one _ _ _) HGL.out w.heap.size w (F1_B.out.alloc F1_B.out.size _) (Nat.le_refl _) (by have := F1_B.out.size; simp; omega) (by have := F1_B.out.size; simp; omega) ?_
      intro v2 w2 ho2 hb2 hg2
      have HO2_ := Lib.hid ho2
      have HB2_ := Lib.hid hb2
      refine hK.out _ _ (grown_trans hHeld hg2) (fun hHeld => ?_)
      clear ho2 hb2 hg2
      clear hK K
      (try simp only [Act.put, List.getElem_toArray, List.getElem_cons_zero, List.getElem_cons_succ, List.setIfInBounds_toArray, List.set_cons_zero, List.set_cons_succ])
      refine' wpAnyH_take (i := 20) (v := _) rfl (by kernel_rfl) (by kernel_rfl) (by kernel_rfl) (fun _ _ _ h => h) (Or.inl ⟨by rfl, ?hy19⟩) (by assumption) ?rest19
      case hy19 =>
        intro w h
        (try clear h)
        go_simp
        (try with_reducible rfl)
      (try simp only [Act.put, List.getElem_toArray, List.getElem_cons_zero, List.getElem_cons_succ, List.setIfInBounds_toArray, List.set_cons_zero, List.set_cons_succ])
      refine wpAnyH_done (by kernel_rfl) ?_ _
      go_wp2_with fail
      go_roundw
      case rel => exact ⟨j + 1, by have := HEV.out; omega, congrArg (Value.int .i64) (by have hw := HPE.out; rw [hw]; push_cast; omega), by rw [HGS.out]; exact HO2_.out, HB2_.out⟩
      case measure => simp [intOf]; omega
    · have HO := Lib.hid hown
      have HB := Lib.hid hbel
      have hpe : p = N := by omega
      have hje : j = N / 2 := by omega
      subst hpe hje
      clear hown hbel hp hj hlt
      go_wp2_with fail
      go_returns
      exact ⟨_, rfl, HO.out, HB.out⟩

set_option maxRecDepth 100000 in
set_option maxHeartbeats 2000000 in
theorem mdBack_any (v : Value) (l : List Int) (w : World) (hv : IS w v l) (hs : isSeq l = true) : Calls Try.prog 67 #[v] w (Makes w (bkL l)) := by
  have h32 := isSeq_len hs
  have HAT := Lib.hid (fun k hk => allIn_getD (isSeq_all hs) k hk)
  obtain ⟨a, cap, hveq⟩ := hv.slice
  subst hveq
  have HV := Lib.hid hv
  obtain ⟨N, hN⟩ : ∃ N, N = l.length := ⟨_, rfl⟩
  obtain ⟨G, hG⟩ : ∃ G : Nat → Int, G = bkT l := ⟨_, rfl⟩
  have hgoal : bkL l = gen (2 * N) G := by rw [hN, hG]; rfl
  rw [hgoal]
  rw [← hN] at HV ⊢
  have HN := Lib.hid hN
  have HG := Lib.hid hG
  rw [← hN] at h32
  clear hgoal hN hG hs hv
  go_enter Try.func67, Try.ntmps67
  go_wp2_with fail
  go_loopw [9, 3] (fun i o wr => ∃ j : Nat, j ≤ N ∧ i = .int .i64 j ∧ Own wr w.heap.size o (gen (2 * j) G) ∧ Below w.heap.size w wr) (fun i _ _ => N - (intOf i).toNat)
  case atStart => exact ⟨0, Nat.zero_le _, rfl, World.ownsRow_nil _ _ _ _, Below.refl _ _⟩
  case round =>
    obtain ⟨j, hj, rfl, hown, hbel⟩ := hrel
    by_cases hlt : j < N
    · skip
      have hltl : j < l.length := by rw [← HN.out]; exact hlt
      have hv2 := HV.out.below hbel
      rcases hv2 with ⟨h0', _⟩ | ⟨_, b, off, cap', hveq, _, hc⟩
      · rw [h0'] at hltl; exact absurd hltl (Nat.not_lt_zero _)
      simp only [Value.slice.injEq] at hveq
      obtain ⟨rfl, hnn, rfl⟩ := hveq
      clear hnn
      have c1 := hc j hltl
      clear hc
      obtain ⟨hx1, hx2⟩ := HAT.out j hltl
      have hgj : G (2 * j) = l.getD j 0 / 2 := by rw [HG.out]; exact bkT_even l j
      have hgj1 : G (2 * j + 1) = (l.getD j 0 + l.getD j 0 / 2) % 2 := by rw [HG.out]; exact bkT_odd l j
      obtain ⟨x, hxd⟩ : ∃ x, x = l.getD j 0 := ⟨_, rfl⟩
      rw [← hxd] at c1 hx1 hx2 hgj hgj1
      have hd : x.tdiv 2 = x / 2 := Int.tdiv_eq_ediv_of_nonneg hx1
      obtain ⟨u, hu⟩ : ∃ u, u = x / 2 := ⟨_, rfl⟩
      have hu1 : 0 ≤ u ∧ u ≤ 1 := by omega
      rw [← hu] at hd hgj hgj1
      have hm : (x + u).tmod 2 = (x + u) % 2 := Int.tmod_eq_emod_of_nonneg (by omega)
      rw [← hm] at hgj1
      obtain ⟨hu1, hu2⟩ := hu1
      obtain ⟨y, hy⟩ : ∃ y, y = (x + u).tmod 2 := ⟨_, rfl⟩
      rw [← hy] at hgj1
      have hy2 := hy.symm
      have hgs : gen (2 * (j + 1)) G = gen (2 * j) G ++ [u, y] := by
        rw [show 2 * (j + 1) = 2 * j + 1 + 1 by omega, gen_succ, gen_succ, hgj, hgj1, List.append_assoc]
        rfl
      have HGS := Lib.hid hgs
      have HGL := Lib.hid (show (gen (2 * j) G).length ≤ 1048576 by rw [gen_length]; omega)
      have HO := Lib.hid hown
      have HB := Lib.hid hbel
      have h0 : (0 : Int) ≤ (j : Int) := by omega
      have h1 : (j : Int) < (N : Int) := by omega
      clear hxd hgj hgj1 hgs hown hbel hu hm hy
      go_wp2_with (at_builtin; refine wpList_pushAll rfl _ _ rfl w.heap.size _ (gen (2 * j) G) rfl (HO.out.alloc _) _ [u, y] rfl (Or.inr ⟨by simp, wr.heap.size, 0, 2, rfl, by simp [maxLen], fun i hi => by match i, hi with | 0, _ => simp | 1, _ => simp⟩) HGL.out (by simp) w.heap.size w (HB.out.alloc HB.out.size _) (Nat.le_refl _) (by have := HB.out.size; simp; omega) (by have := HB.out.size; simp; omega) ?_; intro v2 w2 ho2 hb2)
      go_roundw
      case rel => exact ⟨j + 1, by omega, by go_num, by rw [HGS.out]; assumption, by assumption⟩
      case measure => simp [intOf]; omega
    · obtain rfl : j = N := by omega
      have HO := Lib.hid hown
      have HB := Lib.hid hbel
      clear hown hbel
      go_wp2_with fail
      go_returns
      exact ⟨_, rfl, HO.out, HB.out⟩

set_option maxRecDepth 100000 in
set_option maxHeartbeats 2000000 in
theorem mdSteps_any (v : Value) (l : List Int) (w : World) (hv : IS w v l) (hl : l.length ≤ 64) (ha : allIn l 0 3 = true) : Calls Try.prog 68 #[v] w (Makes w (stpL 0 l)) := by
  have HAT := Lib.hid (fun k hk => allIn_getD ha k hk)
  have HBF := Lib.hid (fun k hk => bfN_in 0 (by decide) l ha k hk)
  obtain ⟨a, cap, hveq⟩ := hv.slice
  subst hveq
  have HV := Lib.hid hv
  obtain ⟨N, hN⟩ : ∃ N, N = l.length := ⟨_, rfl⟩
  obtain ⟨G, hG⟩ : ∃ G : Nat → Int, G = stpT 0 l := ⟨_, rfl⟩
  have hgoal : stpL 0 l = gen N G := by rw [hN, hG]; rfl
  rw [hgoal]
  rw [← hN] at HV ⊢
  have HN := Lib.hid hN
  have HG := Lib.hid hG
  rw [← hN] at hl
  clear hgoal hN hG ha hv
  go_enter Try.func68, Try.ntmps68
  go_wp2_with fail
  go_loopw [9, 4, 6, 3] (fun i bf _ o wr => ∃ j : Nat, j ≤ N ∧ i = .int .i64 j ∧ bf = .int .i64 (bfN 0 l j) ∧ Own wr w.heap.size o (gen j G) ∧ Below w.heap.size w wr) (fun i _ _ _ _ => N - (intOf i).toNat)
  case atStart => exact ⟨0, Nat.zero_le _, rfl, rfl, World.ownsRow_nil _ _ _ _, Below.refl _ _⟩
  case round =>
    obtain ⟨j, hj, rfl, rfl, hown, hbel⟩ := hrel
    by_cases hlt : j < N
    · skip
      have hltl : j < l.length := by rw [← HN.out]; exact hlt
      have hv2 := HV.out.below hbel
      rcases hv2 with ⟨h0', _⟩ | ⟨_, b, off, cap', hveq, _, hc⟩
      · rw [h0'] at hltl; exact absurd hltl (Nat.not_lt_zero _)
      simp only [Value.slice.injEq] at hveq
      obtain ⟨rfl, hnn, rfl⟩ := hveq
      clear hnn
      have c1 := hc j hltl
      clear hc
      obtain ⟨hx1, hx2⟩ := HAT.out j hltl
      obtain ⟨hy1, hy2⟩ := HBF.out j (Nat.le_of_lt hltl)
      have hgj : G j = (l.getD j 0 - bfN 0 l j) % 4 := by rw [HG.out]; rfl
      have hbs := bfN_succ 0 l j
      obtain ⟨x, hxd⟩ : ∃ x, x = l.getD j 0 := ⟨_, rfl⟩
      obtain ⟨y, hyd⟩ : ∃ y, y = bfN 0 l j := ⟨_, rfl⟩
      rw [← hxd] at c1 hx1 hx2 hgj hbs
      rw [← hyd] at hy1 hy2 hgj ⊢
      have hgs := gen_succ j G
      rw [hgj] at hgs
      have HGS := Lib.hid hgs
      have HBS := Lib.hid hbs
      have HGL := Lib.hid (show (gen j G).length ≤ 1048576 by rw [gen_length]; omega)
      have HO := Lib.hid hown
      have HB := Lib.hid hbel
      have h0 : (0 : Int) ≤ (j : Int) := by omega
      have h1 : (j : Int) < (N : Int) := by omega
      clear hxd hyd hgj hgs hbs hown hbel
      go_wp2_with (first
        | (go_at_call 55; refine (phMod_any _ (by omega) (by omega) _).mono ?_; rintro e w' ⟨rfl, rfl⟩)
        | (at_builtin; refine wpList_push rfl _ _ rfl w.heap.size _ (gen j G) rfl (HO.out.alloc _) wr.heap.size 1 ((x - y) % 4) rfl (by simp) HGL.out w.heap.size w (HB.out.alloc HB.out.size _) (Nat.le_refl _) (by have := HB.out.size; simp; omega) (by have := HB.out.size; simp; omega) ?_; intro v2 w2 ho2 hb2))
      go_roundw
      case rel => exact ⟨j + 1, by omega, by go_num, by rw [HBS.out], by rw [HGS.out]; assumption, by assumption⟩
      case measure => simp [intOf]; omega
    · obtain rfl : j = N := by omega
      have HO := Lib.hid hown
      have HB := Lib.hid hbel
      clear hown hbel
      go_wp2_with fail
      go_returns
      exact ⟨_, rfl, HO.out, HB.out⟩

end Go.Proofs.Ytoehehaeanepmab
