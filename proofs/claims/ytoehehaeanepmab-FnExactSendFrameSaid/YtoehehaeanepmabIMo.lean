/- The program's bits and steps: isBits, areSent, phasesOfBits, stepsFrom, stepped. -/
import Derived.Test.YtoehehaeanepmabMoR
namespace Go.Proofs.Ytoehehaeanepmab
set_option maxRecDepth 100000
open Go.RowKit

set_option maxHeartbeats 1000000 in
theorem isBits_any (v : Value) (l : List Int) (w : World) (hv : IS w v l) (hl : l.length ≤ 1048576) : Calls Try.prog 80 #[v] w (Ret w (.bool (bsOk l))) := by
  rcases hv with ⟨rfl, a, cap, rfl⟩ | ⟨hn, b, off, cap, rfl, hm, hc⟩
  · go_enter Try.func80, Try.ntmps80
    go_wp2_with fail
    go_loop [10] (fun i => i = .int .i64 0) (fun _ => 0)
    case atStart => rfl
    case round =>
      subst hrel
      go_wp2_with fail
      go_returns
      exact ⟨rfl, by go_grown⟩
  · have HC := Lib.hid hc
    obtain ⟨N, hN⟩ : ∃ N, N = l.length := ⟨_, rfl⟩
    have HN := Lib.hid hN
    rw [← hN] at hl ⊢
    clear hm hn hc hN
    by_cases h32 : N ≤ 64
    · have hi32 : (N : Int) ≤ 64 := by omega
      go_enter Try.func80, Try.ntmps80
      go_wp2_with fail
      go_loop [10] (fun i => ∃ k : Nat, k ≤ N ∧ i = .int .i64 k ∧ allIn (l.take k) 0 1 = true) (fun i => N - (intOf i).toNat)
      case atStart => exact ⟨0, Nat.zero_le _, rfl, by simp [allIn]⟩
      case round =>
        obtain ⟨k, hk, rfl, hall⟩ := hrel
        have HA := Lib.hid hall
        clear hall
        by_cases hlt : k < N
        · have hltl : k < l.length := by rw [← HN.out]; exact hlt
          have c1 := HC.out k hltl
          have HTK := Lib.hid (allIn_take_succ l 0 1 k hltl HA.out)
          have HFA := Lib.hid (allIn_false l 0 1 k hltl)
          obtain ⟨x, hx⟩ : ∃ x, x = l.getD k 0 := ⟨_, rfl⟩
          rw [← hx] at c1 HTK HFA
          clear hx hltl
          have h0 : (0 : Int) ≤ (k : Int) := by omega
          have h1 : (k : Int) < (N : Int) := by omega
          by_cases hp : x = 0
          · subst hp
            go_wp2_with fail
            go_round
            case rel => exact ⟨k + 1, by omega, by go_num, HTK.out (by decide)⟩
            case measure => simp [intOf]; omega
          · by_cases hq : x = 1
            · subst hq
              go_wp2_with fail
              go_round
              case rel => exact ⟨k + 1, by omega, by go_num, HTK.out (by decide)⟩
              case measure => simp [intOf]; omega
            · have hp1 : (x != 0) = true := by simp [hp]
              have hq1 : (x != 1) = true := by simp [hq]
              go_wp2_with fail
              go_returns
              exact ⟨ret_bool (by unfold bsOk; rw [HFA.out (by unfold inB; rw [Bool.and_eq_false_iff, decide_eq_false_iff_not, decide_eq_false_iff_not]; omega), Bool.and_false]), by go_grown⟩
        · have hh := HA.out
          rw [List.take_of_length_le (by rw [← HN.out]; omega)] at hh
          have HA2 := Lib.hid (show bsOk l = true by unfold bsOk; rw [hh, decide_eq_true (by rw [← HN.out]; exact h32)]; rfl)
          clear hh
          go_wp2_with fail
          go_returns
          exact ⟨ret_bool HA2.out.symm, by go_grown⟩
    · have hi32 : (64 : Int) < (N : Int) := by omega
      have HA2 := Lib.hid (show bsOk l = false by unfold bsOk; rw [decide_eq_false (by rw [← HN.out]; exact h32)]; rfl)
      go_enter Try.func80, Try.ntmps80
      go_wp2_with fail
      go_returns
      exact ⟨ret_bool HA2.out.symm, by go_grown⟩

set_option maxHeartbeats 1000000 in
theorem areSent_any (v : Value) (l : List Int) (w : World) (hv : IS w v l) (hl : l.length ≤ 1048576) : Calls Try.prog 56 #[v] w (Ret w (.bool (seOk l))) := by
  have HIB := Lib.hid (isBits_any v l w hv hl)
  obtain ⟨a, cap, rfl⟩ := hv.slice
  have hse : seOk l = (bsOk l && decide (l.length % 2 = 0)) := rfl
  rw [hse]
  obtain ⟨n, hn⟩ : ∃ n, n = l.length := ⟨_, rfl⟩
  rw [← hn] at HIB ⊢
  obtain ⟨q, hq⟩ : ∃ q, q = bsOk l := ⟨_, rfl⟩
  rw [← hq] at HIB ⊢
  have h0 : (0 : Int) ≤ (n : Int) := by omega
  clear hse hq hv hn hl
  cases q with
  | true =>
    by_cases he : n % 2 = 0
    · have hm : (n : Int).tmod 2 = 0 := by rw [Int.tmod_eq_emod_of_nonneg h0]; omega
      rw [decide_eq_true he]
      clear he
      go_enter Try.func56, Try.ntmps56
      go_wp2_with (go_at_call 80; refine (HIB.out).mono ?_; rintro e w1 ⟨rfl, hb1⟩)
      go_returns
      exact ⟨rfl, ‹_›⟩
    · have hm : (n : Int).tmod 2 = 1 := by rw [Int.tmod_eq_emod_of_nonneg h0]; omega
      rw [decide_eq_false he]
      clear he
      go_enter Try.func56, Try.ntmps56
      go_wp2_with (go_at_call 80; refine (HIB.out).mono ?_; rintro e w1 ⟨rfl, hb1⟩)
      go_returns
      exact ⟨rfl, ‹_›⟩
  | false =>
    go_enter Try.func56, Try.ntmps56
    go_wp2_with (go_at_call 80; refine (HIB.out).mono ?_; rintro e w1 ⟨rfl, hb1⟩)
    go_returns
    exact ⟨rfl, ‹_›⟩

set_option maxRecDepth 100000 in
set_option maxHeartbeats 2000000 in
theorem phasesOfBits_any (v : Value) (l : List Int) (w : World) (hv : IS w v l) (hs : seOk l = true) : Calls Try.prog 58 #[v] w (Makes w (moL l)) := by
  obtain ⟨i0, hi, hz0, hz1, hz2⟩ := info_parts infoInt
  have h64 := bsOk_len (seOk_bs hs)
  have hev := seOk_even hs
  have HAT := Lib.hid (fun k hk => bsOk_at (seOk_bs hs) k hk)
  obtain ⟨a, cap, hveq⟩ := hv.slice
  subst hveq
  have HV := Lib.hid hv
  obtain ⟨N, hN⟩ : ∃ N, N = l.length := ⟨_, rfl⟩
  obtain ⟨M, hM⟩ : ∃ M, M = l.length / 2 := ⟨_, rfl⟩
  obtain ⟨T, hT⟩ : ∃ G : Nat → Int, G = moT l := ⟨_, rfl⟩
  have hgoal : moL l = gen M T := by rw [hM, hT]; rfl
  rw [hgoal]
  rw [← hN] at HV h64 hev ⊢
  have hNM : N = 2 * M := by omega
  have hdv : (N : Int).tdiv 2 = (M : Int) := by rw [Int.tdiv_eq_ediv_of_nonneg (by omega)]; omega
  have hM32 : M ≤ 32 := by omega
  have hMi : (M : Int) ≤ 32 := by omega
  have HN := Lib.hid hN
  have HNM := Lib.hid hNM
  have HT := Lib.hid hT
  clear hgoal hN hT hs hv hM hev hNM
  go_enter Try.func58, Try.ntmps58
  go_wp2_with (at_make; refine wpList_make_full _ rfl _ _ 22 rfl w.heap.size 3 i0 (.int .i64 0) 1 Try.underlying22 hi hz0 hz1 _ _ _ _ M rfl rfl rfl rfl ?b2 ?b3 (Nat.le_refl _) ?_)
  case b2 => rw [hz2]; omega
  case b3 => unfold maxLen; omega
  intro w0 hown0 hgrow0
  rw [made_zeros] at hown0
  have HO0 := Lib.hid (RowI.made T (by simpa using hown0))
  have HB0 := Lib.hid ((Below.refl w.heap.size w).grown hgrow0 (Nat.le_refl _) (fun k h => by cases h))
  clear hown0 hgrow0
  obtain ⟨g, hg⟩ : ∃ g, g = w.heap.size := ⟨_, rfl⟩
  have HG := Lib.hid hg
  rw [← hg] at HO0 ⊢
  clear hg
  go_wp2_with fail
  go_loopw [13, 4, 5, 6] (fun i _ _ _ wr => ∃ j : Nat, j ≤ M ∧ i = .int .i64 j ∧ RowI wr w.heap.size g M (upI j T) ∧ Below w.heap.size w wr) (fun i _ _ _ _ => M - (intOf i).toNat)
  case atStart => exact ⟨0, Nat.zero_le _, rfl, HG.out ▸ HO0.out, HB0.out⟩
  case round =>
    obtain ⟨j, hj, rfl, hown, hbel⟩ := hrel
    by_cases hlt : j < M
    · obtain ⟨p, hp⟩ : ∃ p, p = 2 * j := ⟨_, rfl⟩
      have hltl : p < l.length := by rw [← HN.out, HNM.out]; omega
      have hltl2 : p + 1 < l.length := by rw [← HN.out, HNM.out]; omega
      have hpN : p + 1 < N := by rw [HNM.out]; omega
      rcases HV.out with ⟨h0', _⟩ | ⟨_, b, off, cap', hveq, _, hc⟩
      · rw [h0'] at hltl; exact absurd hltl (Nat.not_lt_zero _)
      simp only [Value.slice.injEq] at hveq
      obtain ⟨rfl, hnn, rfl⟩ := hveq
      clear hnn
      have cw := hc p hltl
      have cw2 := hc (p + 1) hltl2
      clear hc
      obtain ⟨hx1, hx2⟩ := HAT.out p hltl
      obtain ⟨hy1, hy2⟩ := HAT.out (p + 1) hltl2
      have hgj : T j = 2 * l.getD p 0 + (l.getD p 0 + l.getD (p + 1) 0) % 2 := by rw [HT.out, hp]; rfl
      obtain ⟨x, hxd⟩ : ∃ x, x = l.getD p 0 := ⟨_, rfl⟩
      obtain ⟨y, hyd⟩ : ∃ y, y = l.getD (p + 1) 0 := ⟨_, rfl⟩
      rw [← hxd] at cw hx1 hx2 hgj
      rw [← hyd] at cw2 hy1 hy2 hgj
      have hxo := xor01 x y ⟨hx1, hx2⟩ ⟨hy1, hy2⟩
      obtain ⟨r, hr⟩ : ∃ r, r = (x + y) % 2 := ⟨_, rfl⟩
      have q1 : 0 ≤ r ∧ r ≤ 1 := by omega
      rw [← hr] at hgj hxo
      obtain ⟨q1, q2⟩ := q1
      have HC1 := Lib.hid (keepc hbel cw)
      have HC2 := Lib.hid (keepc hbel cw2)
      have HO := Lib.hid hown
      have HB := Lib.hid hbel
      have HGJ := Lib.hid hgj
      have h0 : (0 : Int) ≤ (j : Int) := by omega
      have h1 : (j : Int) < (M : Int) := by omega
      have h0p : (0 : Int) ≤ (p : Int) := by omega
      have h1p : (p : Int) < (N : Int) := by omega
      have h0q : (0 : Int) ≤ (p : Int) + 1 := by omega
      have h1q : (p : Int) + 1 < (N : Int) := by omega
      have HW0 := Lib.hid (show IntKind.i64.wrap (2 * (j : Int)) = (p : Int) by rw [wrI _ ⟨by omega, by omega⟩]; omega)
      have HW := Lib.hid (show IntKind.i64.wrap ((p : Int) + 1) = (p : Int) + 1 from wrI _ ⟨by omega, by omega⟩)
      have hjM := hlt
      clear hxd hyd hgj hown hbel cw cw2 hltl hltl2 hr hp hpN
      go_wp2_with fail
      refine wp_region_held_drew (S := (fun w' => World.grownBy wr w' none)) (by kernel_rfl) (grownDrew (World.grownBy.refl _ _)) ?_
      obtain ⟨d1, hdw⟩ : ∃ w', w' = wr.drew := ⟨_, rfl⟩
      rw [← hdw]
      have hb : Below wr.heap.size wr d1 := by rw [hdw]; exact belowN (Below.refl _ _) 1
      have F1_O := Lib.hid (HO.out.below hb)
      have F1_B := Lib.hid (joins HB.out hb)
      clear hdw hb
      intro hHeld
      refine' wpAnyH_take (i := 0) (v := _) rfl (by kernel_rfl) (by kernel_rfl) (by kernel_rfl) (fun _ _ _ h => h) (Or.inl ⟨by rfl, ?hy1⟩) (by assumption) ?rest1
      case hy1 =>
        intro w h
        (try clear h)
        go_simp
        (try with_reducible rfl)
      (try simp only [Act.put, List.getElem_toArray, List.getElem_cons_zero, List.setIfInBounds_toArray, List.set_cons_zero, List.set_cons_succ])
      refine' wpAnyH_take (i := 1) (v := _) rfl (by kernel_rfl) (by kernel_rfl) (by kernel_rfl) (fun _ _ _ h => h) (Or.inl ⟨by rfl, ?hy2⟩) (by assumption) ?rest2
      case hy2 =>
        intro w h
        (try clear h)
        go_simp
        (try with_reducible rfl)
      (try simp only [Act.put, List.getElem_toArray, List.getElem_cons_zero, List.getElem_cons_succ, List.setIfInBounds_toArray, List.set_cons_zero, List.set_cons_succ])
      refine' wpAnyH_take (i := 2) (v := _) rfl (by kernel_rfl) (by kernel_rfl) (by kernel_rfl) (fun _ _ _ h => h) (Or.inl ⟨by rfl, ?hy3⟩) (by assumption) ?rest3
      case hy3 =>
        intro w h
        have e1 := HW0.out
        (try clear h)
        go_simp
        (try with_reducible rfl)
      (try simp only [Act.put, List.getElem_toArray, List.getElem_cons_zero, List.getElem_cons_succ, List.setIfInBounds_toArray, List.set_cons_zero, List.set_cons_succ])
      refine' wpAnyH_take (i := 3) (v := _) rfl (by kernel_rfl) (by kernel_rfl) (by kernel_rfl) (fun _ _ _ h => h) (Or.inl ⟨by rfl, ?hy4⟩) (by assumption) ?rest4
      case hy4 =>
        intro w h
        (try clear h)
        go_simp
        (try with_reducible rfl)
      (try simp only [Act.put, List.getElem_toArray, List.getElem_cons_zero, List.getElem_cons_succ, List.setIfInBounds_toArray, List.set_cons_zero, List.set_cons_succ])
      refine' wpAnyH_take (i := 4) (v := _) rfl (by kernel_rfl) (by kernel_rfl) (by kernel_rfl) (fun _ _ _ h => h) (Or.inl ⟨by rfl, ?hy5⟩) (by assumption) ?rest5
      case hy5 =>
        intro w h
        have c1 := cellR h HC1.out (fun e => by cases e)
        (try clear h)
        go_simp
        (try with_reducible rfl)
      (try simp only [Act.put, List.getElem_toArray, List.getElem_cons_zero, List.getElem_cons_succ, List.setIfInBounds_toArray, List.set_cons_zero, List.set_cons_succ])
      refine' wpAnyH_take (i := 5) (v := _) rfl (by kernel_rfl) (by kernel_rfl) (by kernel_rfl) (fun _ _ _ h => h) (Or.inl ⟨by rfl, ?hy6⟩) (by assumption) ?rest6
      case hy6 =>
        intro w h
        (try clear h)
        go_simp
        (try with_reducible rfl)
      (try simp only [Act.put, List.getElem_toArray, List.getElem_cons_zero, List.getElem_cons_succ, List.setIfInBounds_toArray, List.set_cons_zero, List.set_cons_succ])
      refine' wpAnyH_take (i := 6) (v := _) rfl (by kernel_rfl) (by kernel_rfl) (by kernel_rfl) (fun _ _ _ h => h) (Or.inl ⟨by rfl, ?hy7⟩) (by assumption) ?rest7
      case hy7 =>
        intro w h
        (try clear h)
        go_simp
        (try with_reducible rfl)
      (try simp only [Act.put, List.getElem_toArray, List.getElem_cons_zero, List.getElem_cons_succ, List.setIfInBounds_toArray, List.set_cons_zero, List.set_cons_succ])
      refine' wpAnyH_take (i := 7) (v := _) rfl (by kernel_rfl) (by kernel_rfl) (by kernel_rfl) (fun _ _ _ h => h) (Or.inl ⟨by rfl, ?hy8⟩) (by assumption) ?rest8
      case hy8 =>
        intro w h
        have e1 := HW0.out
        (try clear h)
        go_simp
        (try with_reducible rfl)
      (try simp only [Act.put, List.getElem_toArray, List.getElem_cons_zero, List.getElem_cons_succ, List.setIfInBounds_toArray, List.set_cons_zero, List.set_cons_succ])
      refine' wpAnyH_take (i := 8) (v := _) rfl (by kernel_rfl) (by kernel_rfl) (by kernel_rfl) (fun _ _ _ h => h) (Or.inl ⟨by rfl, ?hy9⟩) (by assumption) ?rest9
      case hy9 =>
        intro w h
        have e1 := HW.out
        (try clear h)
        go_simp
        (try with_reducible rfl)
      (try simp only [Act.put, List.getElem_toArray, List.getElem_cons_zero, List.getElem_cons_succ, List.setIfInBounds_toArray, List.set_cons_zero, List.set_cons_succ])
      refine' wpAnyH_take (i := 9) (v := _) rfl (by kernel_rfl) (by kernel_rfl) (by kernel_rfl) (fun _ _ _ h => h) (Or.inl ⟨by rfl, ?hy10⟩) (by assumption) ?rest10
      case hy10 =>
        intro w h
        have e1 := HW.out
        (try clear h)
        go_simp
        (try with_reducible rfl)
      (try simp only [Act.put, List.getElem_toArray, List.getElem_cons_zero, List.getElem_cons_succ, List.setIfInBounds_toArray, List.set_cons_zero, List.set_cons_succ])
      refine' wpAnyH_take (i := 10) (v := _) rfl (by kernel_rfl) (by kernel_rfl) (by kernel_rfl) (fun _ _ _ h => h) (Or.inl ⟨by rfl, ?hy11⟩) (by assumption) ?rest11
      case hy11 =>
        intro w h
        have c2 := cellR h HC2.out (fun e => by cases e)
        (try clear h)
        go_simp
        (try with_reducible rfl)
      (try simp only [Act.put, List.getElem_toArray, List.getElem_cons_zero, List.getElem_cons_succ, List.setIfInBounds_toArray, List.set_cons_zero, List.set_cons_succ])
      refine' wpAnyH_take (i := 11) (v := _) rfl (by kernel_rfl) (by kernel_rfl) (by kernel_rfl) (fun _ _ _ h => h) (Or.inl ⟨by rfl, ?hy12⟩) (by assumption) ?rest12
      case hy12 =>
        intro w h
        (try clear h)
        go_simp
        (try with_reducible rfl)
      (try simp only [Act.put, List.getElem_toArray, List.getElem_cons_zero, List.getElem_cons_succ, List.setIfInBounds_toArray, List.set_cons_zero, List.set_cons_succ])
      refine' wpAnyH_take (i := 12) (v := _) rfl (by kernel_rfl) (by kernel_rfl) (by kernel_rfl) (fun _ _ _ h => h) (Or.inl ⟨by rfl, ?hy13⟩) (by assumption) ?rest13
      case hy13 =>
        intro w h
        (try clear h)
        go_simp
        (try with_reducible rfl)
      (try simp only [Act.put, List.getElem_toArray, List.getElem_cons_zero, List.getElem_cons_succ, List.setIfInBounds_toArray, List.set_cons_zero, List.set_cons_succ])
      refine wpAnyH_done (by kernel_rfl) ?_ _
      have hv1 := F1_O.out.cell j hjM
      rw [show upI j T j = 0 from if_neg (Nat.lt_irrefl _)] at hv1
      have hfz := F1_O.out.frozen j
      go_wp2_with fail
      go_roundw
      case rel =>
        have hs := F1_O.out.set hjM
        rw [HGJ.out] at hs
        exact ⟨j + 1, by omega, by go_num, hs, belows F1_B.out (Nat.le_of_eq HG.out.symm) _⟩
      case measure => simp [intOf]; omega
    · obtain rfl : j = M := by omega
      have HO := Lib.hid hown
      have HB := Lib.hid hbel
      clear hown hbel
      go_wp2_with fail
      go_returns
      exact ⟨_, rfl, HO.out.own, HB.out⟩

set_option maxRecDepth 100000 in
set_option maxHeartbeats 2000000 in
theorem stepsFrom_any (c : Int) (hc3 : 0 ≤ c ∧ c ≤ 3) (v : Value) (l : List Int) (w : World) (hv : IS w v l) (hl : l.length ≤ 64) (ha : allIn l 0 3 = true) : Calls Try.prog 70 #[.int .i64 c, v] w (Makes w (stpL c l)) := by
  obtain ⟨i0, hi, hz0, hz1, hz2⟩ := info_parts infoInt
  have HAT := Lib.hid (fun k hk => allIn_getD ha k hk)
  have HBF := Lib.hid (fun k hk => bfN_in c hc3 l ha k hk)
  obtain ⟨a, cap, hveq⟩ := hv.slice
  subst hveq
  have HV := Lib.hid hv
  obtain ⟨M, hM⟩ : ∃ M, M = l.length := ⟨_, rfl⟩
  obtain ⟨T, hT⟩ : ∃ G : Nat → Int, G = stpT c l := ⟨_, rfl⟩
  have hgoal : stpL c l = gen M T := by rw [hM, hT]; rfl
  rw [hgoal]
  rw [← hM] at HV hl ⊢
  have hMi : (M : Int) ≤ 64 := by omega
  have HN := Lib.hid hM
  have HT := Lib.hid hT
  clear hgoal hM hT hv ha
  go_enter Try.func70, Try.ntmps70
  go_wp2_with (at_make; refine wpList_make_full _ rfl _ _ 22 rfl w.heap.size 3 i0 (.int .i64 0) 1 Try.underlying22 hi hz0 hz1 _ _ _ _ M rfl rfl rfl rfl ?b2 ?b3 (Nat.le_refl _) ?_)
  case b2 => rw [hz2]; omega
  case b3 => unfold maxLen; omega
  intro w0 hown0 hgrow0
  rw [made_zeros] at hown0
  have HO0 := Lib.hid (RowI.made T (by simpa using hown0))
  have HB0 := Lib.hid ((Below.refl w.heap.size w).grown hgrow0 (Nat.le_refl _) (fun k h => by cases h))
  clear hown0 hgrow0
  obtain ⟨g, hg⟩ : ∃ g, g = w.heap.size := ⟨_, rfl⟩
  have HG := Lib.hid hg
  rw [← hg] at HO0 ⊢
  clear hg
  go_wp2_with fail
  go_loopw [13, 0, 6, 7] (fun i bf _ _ wr => ∃ j : Nat, j ≤ M ∧ i = .int .i64 j ∧ bf = .int .i64 (bfN c l j) ∧ RowI wr w.heap.size g M (upI j T) ∧ Below w.heap.size w wr) (fun i _ _ _ _ => M - (intOf i).toNat)
  case atStart => exact ⟨0, Nat.zero_le _, rfl, rfl, HG.out ▸ HO0.out, HB0.out⟩
  case round =>
    obtain ⟨j, hj, rfl, rfl, hown, hbel⟩ := hrel
    by_cases hlt : j < M
    · have hltl : j < l.length := by rw [← HN.out]; exact hlt
      rcases HV.out.below hbel with ⟨h0', _⟩ | ⟨_, b, off, cap', hveq, _, hc⟩
      · rw [h0'] at hltl; exact absurd hltl (Nat.not_lt_zero _)
      simp only [Value.slice.injEq] at hveq
      obtain ⟨rfl, hnn, rfl⟩ := hveq
      clear hnn
      have c1 := hc j hltl
      clear hc
      obtain ⟨hx1, hx2⟩ := HAT.out j hltl
      obtain ⟨hy1, hy2⟩ := HBF.out j (Nat.le_of_lt hltl)
      have hgj : T j = (l.getD j 0 - bfN c l j) % 4 := by rw [HT.out]; rfl
      have hbs := bfN_succ c l j
      obtain ⟨x, hxd⟩ : ∃ x, x = l.getD j 0 := ⟨_, rfl⟩
      obtain ⟨y, hyd⟩ : ∃ y, y = bfN c l j := ⟨_, rfl⟩
      rw [← hxd] at c1 hx1 hx2 hgj hbs
      rw [← hyd] at hy1 hy2 hgj ⊢
      have HGJ := Lib.hid hgj
      have HBS := Lib.hid hbs
      clear hxd hyd hgj hbs hltl
      have HO := Lib.hid hown
      have HB := Lib.hid hbel
      have h0 : (0 : Int) ≤ (j : Int) := by omega
      have h1 : (j : Int) < (M : Int) := by omega
      have hv1 := hown.cell j hlt
      rw [show upI j T j = 0 from if_neg (Nat.lt_irrefl _)] at hv1
      have hfz := hown.frozen j
      have hjM := hlt
      clear hown hbel
      go_wp2_with (go_at_call 49; refine (modulo_any _ 4 (by omega) (by omega) (by omega) (by omega) _).mono ?_; rintro e w' ⟨rfl, rfl⟩)
      go_roundw
      case rel =>
        have hs := HO.out.set hjM
        rw [HGJ.out] at hs
        exact ⟨j + 1, by omega, by go_num, by rw [HBS.out], hs, belows HB.out (Nat.le_of_eq HG.out.symm) _⟩
      case measure => simp [intOf]; omega
    · obtain rfl : j = M := by omega
      have HO := Lib.hid hown
      have HB := Lib.hid hbel
      clear hown hbel
      go_wp2_with fail
      go_returns
      exact ⟨_, rfl, HO.out.own, HB.out⟩

set_option maxRecDepth 100000 in
set_option maxHeartbeats 2000000 in
theorem stepped_any (c : Int) (hc3 : 0 ≤ c ∧ c ≤ 3) (v : Value) (l : List Int) (w : World) (hv : IS w v l) (hl : l.length ≤ 64) (ha : allIn l 0 3 = true) : Calls Try.prog 57 #[.int .i64 c, v] w (Makes w (fsL c l)) := by
  obtain ⟨i0, hi, hz0, hz1, hz2⟩ := info_parts infoInt
  have HAT := Lib.hid (fun k hk => allIn_getD ha k hk)
  have HFI := Lib.hid (fun k => fsN_in c hc3 l k)
  obtain ⟨a, cap, hveq⟩ := hv.slice
  subst hveq
  have HV := Lib.hid hv
  obtain ⟨M, hM⟩ : ∃ M, M = l.length := ⟨_, rfl⟩
  obtain ⟨T, hT⟩ : ∃ G : Nat → Int, G = fun i => fsN c l (i + 1) := ⟨_, rfl⟩
  have hgoal : fsL c l = gen M T := by rw [hM, hT]; rfl
  rw [hgoal]
  rw [← hM] at HV hl ⊢
  have hMi : (M : Int) ≤ 64 := by omega
  have HN := Lib.hid hM
  have HT := Lib.hid hT
  clear hgoal hM hT hv ha
  go_enter Try.func57, Try.ntmps57
  go_wp2_with (at_make; refine wpList_make_full _ rfl _ _ 22 rfl w.heap.size 3 i0 (.int .i64 0) 1 Try.underlying22 hi hz0 hz1 _ _ _ _ M rfl rfl rfl rfl ?b2 ?b3 (Nat.le_refl _) ?_)
  case b2 => rw [hz2]; omega
  case b3 => unfold maxLen; omega
  intro w0 hown0 hgrow0
  rw [made_zeros] at hown0
  have HO0 := Lib.hid (RowI.made T (by simpa using hown0))
  have HB0 := Lib.hid ((Below.refl w.heap.size w).grown hgrow0 (Nat.le_refl _) (fun k h => by cases h))
  clear hown0 hgrow0
  obtain ⟨g, hg⟩ : ∃ g, g = w.heap.size := ⟨_, rfl⟩
  have HG := Lib.hid hg
  rw [← hg] at HO0 ⊢
  clear hg
  go_wp2_with fail
  go_loopw [13, 0, 6, 7] (fun i bf _ _ wr => ∃ j : Nat, j ≤ M ∧ i = .int .i64 j ∧ bf = .int .i64 (fsN c l j) ∧ RowI wr w.heap.size g M (upI j T) ∧ Below w.heap.size w wr) (fun i _ _ _ _ => M - (intOf i).toNat)
  case atStart => exact ⟨0, Nat.zero_le _, rfl, rfl, HG.out ▸ HO0.out, HB0.out⟩
  case round =>
    obtain ⟨j, hj, rfl, rfl, hown, hbel⟩ := hrel
    by_cases hlt : j < M
    · have hltl : j < l.length := by rw [← HN.out]; exact hlt
      rcases HV.out.below hbel with ⟨h0', _⟩ | ⟨_, b, off, cap', hveq, _, hc⟩
      · rw [h0'] at hltl; exact absurd hltl (Nat.not_lt_zero _)
      simp only [Value.slice.injEq] at hveq
      obtain ⟨rfl, hnn, rfl⟩ := hveq
      clear hnn
      have c1 := hc j hltl
      clear hc
      obtain ⟨hx1, hx2⟩ := HAT.out j hltl
      obtain ⟨hy1, hy2⟩ := HFI.out j
      have hgj : T j = (fsN c l j + l.getD j 0) % 4 := by rw [HT.out]; rfl
      have hbs : fsN c l (j + 1) = (fsN c l j + l.getD j 0) % 4 := rfl
      obtain ⟨x, hxd⟩ : ∃ x, x = l.getD j 0 := ⟨_, rfl⟩
      obtain ⟨y, hyd⟩ : ∃ y, y = fsN c l j := ⟨_, rfl⟩
      rw [← hxd] at c1 hx1 hx2 hgj hbs
      rw [← hyd] at hy1 hy2 hgj hbs ⊢
      have HGJ := Lib.hid hgj
      have HBS := Lib.hid hbs
      clear hxd hyd hgj hbs hltl
      have HO := Lib.hid hown
      have HB := Lib.hid hbel
      have h0 : (0 : Int) ≤ (j : Int) := by omega
      have h1 : (j : Int) < (M : Int) := by omega
      have hv1 := hown.cell j hlt
      rw [show upI j T j = 0 from if_neg (Nat.lt_irrefl _)] at hv1
      have hfz := hown.frozen j
      have hjM := hlt
      clear hown hbel
      go_wp2_with (go_at_call 49; refine (modulo_any _ 4 (by omega) (by omega) (by omega) (by omega) _).mono ?_; rintro e w' ⟨rfl, rfl⟩)
      go_roundw
      case rel =>
        have hs := HO.out.set hjM
        rw [HGJ.out] at hs
        exact ⟨j + 1, by omega, by go_num, by rw [HBS.out], hs, belows HB.out (Nat.le_of_eq HG.out.symm) _⟩
      case measure => simp [intOf]; omega
    · obtain rfl : j = M := by omega
      have HO := Lib.hid hown
      have HB := Lib.hid hbel
      clear hown hbel
      go_wp2_with fail
      go_returns
      exact ⟨_, rfl, HO.out.own, HB.out⟩

set_option maxHeartbeats 1000000 in
theorem bitHi_any (x : Int) (h : 0 ≤ x ∧ x ≤ 3) (w : World) : Calls Try.prog 86 #[.int .i64 x, .int .i64 1] w (Pure w (.int .i64 (x / 2))) := by
  rcases (show x = 0 ∨ x = 1 ∨ x = 2 ∨ x = 3 by omega) with rfl | rfl | rfl | rfl
  all_goals
    go_enter Try.func86, Try.ntmps86
    go_wp2_with fail
    go_returns
    exact ⟨rfl, rfl⟩
set_option maxHeartbeats 1000000 in
theorem bitLo_any (x : Int) (h : 0 ≤ x ∧ x ≤ 3) (w : World) : Calls Try.prog 86 #[.int .i64 x, .int .i64 0] w (Pure w (.int .i64 (x % 2))) := by
  rcases (show x = 0 ∨ x = 1 ∨ x = 2 ∨ x = 3 by omega) with rfl | rfl | rfl | rfl
  all_goals
    go_enter Try.func86, Try.ntmps86
    go_wp2_with fail
    go_returns
    exact ⟨rfl, rfl⟩
set_option maxRecDepth 100000 in
set_option maxHeartbeats 2000000 in
theorem bitsOfPhases_any (v : Value) (l : List Int) (w : World) (hv : IS w v l) (hl : l.length ≤ 48) (ha : allIn l 0 3 = true) : Calls Try.prog 69 #[v] w (Makes w (bkL l)) := by
  obtain ⟨i0, hi, hz0, hz1, hz2⟩ := info_parts infoInt
  have HAT := Lib.hid (fun k hk => allIn_getD ha k hk)
  obtain ⟨a, cap, hveq⟩ := hv.slice
  subst hveq
  have HV := Lib.hid hv
  obtain ⟨N, hN⟩ : ∃ N, N = l.length := ⟨_, rfl⟩
  obtain ⟨M, hM⟩ : ∃ M, M = 2 * l.length := ⟨_, rfl⟩
  obtain ⟨T, hT⟩ : ∃ G : Nat → Int, G = bkT l := ⟨_, rfl⟩
  have hgoal : bkL l = gen M T := by rw [hM, hT]; rfl
  rw [hgoal]
  rw [← hN] at HV hl hM ⊢
  have hmul : (2 : Int) * (N : Int) = (M : Int) := by omega
  have hM32 : M ≤ 96 := by omega
  have hMi : (M : Int) ≤ 96 := by omega
  have hM0 : (0 : Int) ≤ (M : Int) := by omega
  have HN := Lib.hid hN
  have HNM := Lib.hid hM
  have HT := Lib.hid hT
  clear hgoal hN hT ha hv hM
  go_enter Try.func69, Try.ntmps69
  go_wp2_with (at_make; refine wpList_make_full _ rfl _ _ 22 rfl w.heap.size 3 i0 (.int .i64 0) 1 Try.underlying22 hi hz0 hz1 _ _ _ _ M rfl rfl rfl rfl ?b2 ?b3 (Nat.le_refl _) ?_)
  case b2 => rw [hz2]; omega
  case b3 => unfold maxLen; omega
  intro w0 hown0 hgrow0
  rw [made_zeros] at hown0
  have HO0 := Lib.hid (RowI.made T (by simpa using hown0))
  have HB0 := Lib.hid ((Below.refl w.heap.size w).grown hgrow0 (Nat.le_refl _) (fun k h => by cases h))
  clear hown0 hgrow0
  obtain ⟨g, hg⟩ : ∃ g, g = w.heap.size := ⟨_, rfl⟩
  have HG := Lib.hid hg
  rw [← hg] at HO0 ⊢
  clear hg
  go_wp2_with fail
  clear hmul
  go_loopw [13, 4, 5, 6] (fun i _ _ _ wr => ∃ j : Nat, j ≤ N ∧ i = .int .i64 j ∧ RowI wr w.heap.size g M (upI (2 * j) T) ∧ Below w.heap.size w wr) (fun i _ _ _ _ => N - (intOf i).toNat)
  case atStart => exact ⟨0, Nat.zero_le _, rfl, HG.out ▸ HO0.out, HB0.out⟩
  case round =>
    obtain ⟨j, hj, rfl, hown, hbel⟩ := hrel
    by_cases hlt : j < N
    · obtain ⟨p, hp⟩ : ∃ p, p = 2 * j := ⟨_, rfl⟩
      have hltl : j < l.length := by rw [← HN.out]; exact hlt
      have hpM : p + 1 < M := by rw [HNM.out]; omega
      rcases HV.out.below hbel with ⟨h0', _⟩ | ⟨_, b, off, cap', hveq, _, hc⟩
      · rw [h0'] at hltl; exact absurd hltl (Nat.not_lt_zero _)
      simp only [Value.slice.injEq] at hveq
      obtain ⟨rfl, hnn, rfl⟩ := hveq
      clear hnn
      have c1 := hc j hltl
      clear hc
      obtain ⟨hx1, hx2⟩ := HAT.out j hltl
      have hgj : T p = l.getD j 0 / 2 := by rw [HT.out, hp]; exact bkT_even l j
      have hgj1 : T (p + 1) = (l.getD j 0 + l.getD j 0 / 2) % 2 := by rw [HT.out, hp]; exact bkT_odd l j
      obtain ⟨x, hxd⟩ : ∃ x, x = l.getD j 0 := ⟨_, rfl⟩
      rw [← hxd] at c1 hx1 hx2 hgj hgj1
      have HHI := Lib.hid (bitHi_any x ⟨hx1, hx2⟩)
      have HLO := Lib.hid (bitLo_any x ⟨hx1, hx2⟩)
      obtain ⟨u, hu⟩ : ∃ u, u = x / 2 := ⟨_, rfl⟩
      obtain ⟨r, hr⟩ : ∃ r, r = x % 2 := ⟨_, rfl⟩
      have hu1 : 0 ≤ u ∧ u ≤ 1 := by omega
      have hr1 : 0 ≤ r ∧ r ≤ 1 := by omega
      have hxo := xor01 u r hu1 hr1
      have he : (x + x / 2) % 2 = (u + r) % 2 := by omega
      rw [he] at hgj1
      rw [← hu] at HHI hgj
      rw [← hr] at HLO
      obtain ⟨z, hz⟩ : ∃ z, z = (u + r) % 2 := ⟨_, rfl⟩
      rw [← hz] at hxo hgj1
      rw [← hp] at hown
      have HO := Lib.hid hown
      have HB := Lib.hid hbel
      have HGJ := Lib.hid (And.intro hgj hgj1)
      have HP := Lib.hid hp
      have h0 : (0 : Int) ≤ (j : Int) := by omega
      have h1 : (j : Int) < (N : Int) := by omega
      have hp2 : (2 : Int) * (j : Int) = (p : Int) := by omega
      have h0p : (0 : Int) ≤ (p : Int) := by omega
      have h1p : (p : Int) < (M : Int) := by omega
      have h1q : (p : Int) + 1 < (M : Int) := by omega
      have hv1 := hown.cell p (by omega)
      have hv2 := hown.cell (p + 1) (by omega)
      rw [show upI p T p = 0 from if_neg (Nat.lt_irrefl _)] at hv1
      rw [show upI p T (p + 1) = 0 from if_neg (by omega)] at hv2
      have hfz := hown.frozen p
      have hfz2 := hown.frozen (p + 1)
      clear hxd hgj hgj1 hown hbel hltl hr hp hu hz he
      go_wp2_with (first
        | (refine (HHI.out _).mono ?_; rintro e w' ⟨rfl, rfl⟩)
        | (refine (HLO.out _).mono ?_; rintro e w' ⟨rfl, rfl⟩))
      go_roundw
      case rel =>
        have hs := (HO.out.set (show p < M by omega)).set hpM
        rw [HGJ.out.1, HGJ.out.2] at hs
        exact ⟨j + 1, by omega, by go_num, by rw [show 2 * (j + 1) = p + 1 + 1 by rw [HP.out]; omega]; exact hs, belows (belows HB.out (Nat.le_of_eq HG.out.symm) _) (Nat.le_of_eq HG.out.symm) _⟩
      case measure => simp [intOf]; omega
    · obtain rfl : j = N := by omega
      rw [← HNM.out] at hown
      have HO := Lib.hid hown
      have HB := Lib.hid hbel
      clear hown hbel
      go_wp2_with fail
      go_returns
      exact ⟨_, rfl, HO.out.own, HB.out⟩

end Go.Proofs.Ytoehehaeanepmab
