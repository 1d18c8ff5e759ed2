/- The model's UnfoldOf. -/
import Derived.Test.YtjoepdflbbcliaaUfM
import Derived.Test.YtjoepdflbbcliaaSAr
import Derived.Test.YtjoepdflbbcliaaGcd
import Derived.Test.YtjoepdflbbcliaaApp
namespace Go.Proofs.Ytjoepdflbbcliaa
set_option maxRecDepth 100000
open Go.RowKit

set_option maxRecDepth 100000 in
set_option maxHeartbeats 4000000 in
theorem sunfoldOf (v : Value) (m : List (List Int)) (w : World) (hv : IR w v m) : Calls Try.prog 30 #[v] w (MakesB w (ufA m) (ufOk m)) := by
  have HG := Lib.hid (peArray_any v m w hv)
  have HV := Lib.hid hv
  obtain ⟨a, cap, rfl⟩ := hv.slice
  cases hm : arOk m with
  | false =>
    have h1 : ufOk m = false := by unfold ufOk; rw [hm]; rfl
    have h2 : ufA m = [] := by unfold ufA; rw [h1]; rfl
    rw [hm] at HG
    rw [h1, h2]
    clear hm hv HV h1 h2
    go_enter Try.func30, Try.ntmps30
    go_wp2_with fail
    refine (HG.out).mono ?_
    rintro e w1 ⟨rfl, hb⟩
    have HB1 := Lib.hid hb
    clear hb
    go_wp2_with fail
    go_returns
    exact ⟨_, rfl, World.ownsRow_nil _ _ _ _, HB1.out⟩
  | true =>
    rw [hm] at HG
    obtain ⟨⟨p1, p2⟩, ⟨p3, p4⟩, hrows⟩ := arOk_parts hm
    have HGC := Lib.hid (fun w' => show Calls Try.prog 49 #[.int .i64 m.length, .int .i64 (colsOf m)] w' (Ret w' (.int .i64 (gcdN m.length (colsOf m) : Nat))) from crGcd_any m.length (colsOf m) (by omega) (by omega) w')
    have hok : ufOk m = (decide (gcdN m.length (colsOf m) = 1) && decide (m.length * colsOf m ≤ 32)) := by unfold ufOk; rw [hm]; rfl
    have hA : ufA m = if decide (gcdN m.length (colsOf m) = 1) && decide (m.length * colsOf m ≤ 32) then ufL m else [] := by unfold ufA; rw [hok]
    have hnm : m.length * colsOf m ≤ 64 := Nat.mul_le_mul p2 p4
    have HPR := Lib.hid (show (m.length : Int) * (colsOf m : Int) = ((m.length * colsOf m : Nat) : Int) by push_cast; rfl)
    have HROW := Lib.hid (fun i hi => (hrows i hi).1)
    have HAT := Lib.hid (fun i j => show atM m i j = (m.getD i []).getD j 0 from rfl)
    have HFF := Lib.hid (fun t => show (fun t => atM m (t % m.length) (t % colsOf m)) t = atM m (t % m.length) (t % colsOf m) from rfl)
    rw [hok, hA]
    unfold ufL
    obtain ⟨-, b, off, u0, rfl, hc0, hu0⟩ := HV.out.at 0 (by omega)
    obtain ⟨ua, uc, rfl⟩ := hu0.sl
    rw [Nat.add_zero, show (m.getD 0 []).length = colsOf m from rfl] at hc0
    have HC00 := Lib.hid hc0
    obtain ⟨F, hF⟩ : ∃ F : Nat → Int, F = fun t => atM m (t % m.length) (t % colsOf m) := ⟨_, rfl⟩
    have HFt := Lib.hid (fun (t : Nat) => show F t = atM m (t % m.length) (t % colsOf m) by rw [hF])
    rw [← hF]
    obtain ⟨N, hN⟩ : ∃ N, N = m.length * colsOf m := ⟨_, rfl⟩
    rw [← hN] at hnm HPR ⊢
    obtain ⟨gc, hgc⟩ : ∃ N, N = gcdN m.length (colsOf m) := ⟨_, rfl⟩
    rw [← hgc] at HGC ⊢
    obtain ⟨n, hn⟩ : ∃ n, n = m.length := ⟨_, rfl⟩
    obtain ⟨c, hc⟩ : ∃ n, n = colsOf m := ⟨_, rfl⟩
    rw [← hn] at HGC HG p1 p2 HPR HROW ⊢
    rw [← hc] at HGC HPR HC00 p3 p4
    simp only [← hn, ← hc] at HFt
    simp only [← hc] at HROW
    have HNN := Lib.hid (show ∀ i, i < n → i < m.length from fun i hi => by rw [← hn]; exact hi)
    have hn0 : (0 : Int) < (n : Int) := by omega
    have hnn : 0 < n := by omega
    have B0 := Lib.hid (Below.refl w.heap.size w)
    clear hv hm hrows hok hA hF hN hgc hn hc hc0 hu0 HFF
    by_cases h1 : gc = 1
    · subst h1
      by_cases h32 : N ≤ 32
      · rw [decide_eq_true h32, show (decide (1 = 1) && true) = true from rfl, if_pos rfl]
        go_enter Try.func30, Try.ntmps30
        go_wp2_with fail
        refine (HG.out).mono ?_
        rintro e w1 ⟨rfl, hb⟩
        have HB1 := Lib.hid hb
        have c0 := keepc hb HC00.out
        have hpr := HPR.out
        clear hb
        go_wp2_with fail
        refine (HGC.out _).mono ?_
        rintro e w2 ⟨rfl, hb⟩
        have HB2 := Lib.hid (joins HB1.out hb)
        have c1 := keepc hb c0
        clear hb c0
        have h32' : ¬ (32 : Int) < (N : Int) := by omega
        go_wp2_with fail
        clear c1 hpr
        go_loopw [5, 4] (fun q o wr => ∃ t : Nat, t ≤ N ∧ q = .int .i64 t ∧ Own wr w.heap.size o (gen t F) ∧ Below w.heap.size w wr) (fun q _ _ => N - (intOf q).toNat)
        case atStart => exact ⟨0, Nat.zero_le _, rfl, World.ownsRow_nil _ _ _ _, HB2.out⟩
        case round =>
          obtain ⟨t, ht, rfl, hown, hbel⟩ := hrel
          obtain ⟨wx, hwx⟩ : ∃ wo, wo = wr := ⟨_, rfl⟩
          rw [← hwx] at hown hbel ⊢
          clear hwx
          have HO := Lib.hid hown
          have HB := Lib.hid hbel
          clear hown hbel
          have c0 := keepc HB.out HC00.out
          have hpr := HPR.out
          by_cases hlt : t < N
          · have h0 : (0 : Int) ≤ (t : Int) := by omega
            have h1 : (t : Int) < (N : Int) := by omega
            obtain ⟨P, hP⟩ : ∃ P, P = t % n := ⟨_, rfl⟩
            obtain ⟨Q, hQ⟩ : ∃ P, P = t % c := ⟨_, rfl⟩
            have hPn : P < n := by rw [hP]; exact Nat.mod_lt _ (by omega)
            have hQc : Q < c := by rw [hQ]; exact Nat.mod_lt _ (by omega)
            have hft := HFt.out t
            rw [← hP, ← hQ] at hft
            obtain ⟨-, b', off', u, hab, hcp, hu⟩ := HV.out.at P (HNN.out P hPn)
            simp only [Option.some.injEq, Addr.mk.injEq] at hab
            obtain ⟨rfl, rfl, -⟩ := hab
            have hrow := HROW.out P hPn
            rcases hu with ⟨h0', _⟩ | ⟨_, b1, o1, k1, hveq, _, hcc⟩
            · rw [h0'] at hrow; exact absurd hrow (by simp; omega)
            subst hveq
            rw [hrow] at hcp
            have hcx := hcc Q (by rw [hrow]; exact hQc)
            have hat := HAT.out P Q
            rw [← hat, ← hft] at hcx
            have hgs := gen_succ t F
            obtain ⟨x, hx⟩ : ∃ x, x = F t := ⟨_, rfl⟩
            rw [← hx] at hcx hgs
            have HC0 := Lib.hid c0
            have HC1 := Lib.hid (keepc HB.out hcp)
            have HCX := Lib.hid (keepc HB.out hcx)
            have HNE1 := Lib.hid (HO.out.ne (World.block_lt_of_cell? w _ hcp))
            have HNE2 := Lib.hid (HO.out.ne (World.block_lt_of_cell? w _ hcx))
            have HE1 := Lib.hid (show (t : Int).tmod (n : Int) = (P : Int) by rw [hP]; exact tmodN t n)
            have HE2 := Lib.hid (show (t : Int).tmod (c : Int) = (Q : Int) by rw [hQ]; exact tmodN t c)
            have HN0 := Lib.hid (show ¬ n = 0 by omega)
            have HM0 := Lib.hid (show ¬ c = 0 by omega)
            have HGS := Lib.hid hgs
            have HGL := Lib.hid (show (gen t F).length ≤ 1048576 by rw [gen_length]; omega)
            have hp0 : (0 : Int) ≤ (P : Int) := by omega
            have hp1 : (P : Int) < (n : Int) := by omega
            have hq0 : (0 : Int) ≤ (Q : Int) := by omega
            have hq1 : (Q : Int) < (c : Int) := by omega
            clear hP hQ hft hrow hcc hcp hcx hat hgs hx
            go_wp2_with fail
            clear c0 hpr
            refine wp_region_held_drew (S := (fun w' => World.grownBy wx w' u4.ownBlock)) (by kernel_rfl) (grownDrew (World.grownBy.refl _ _)) ?_
            obtain ⟨d1, hdw⟩ : ∃ w', w' = wx.drew := ⟨_, rfl⟩
            rw [← hdw]
            have hb : Below wx.heap.size wx d1 := by rw [hdw]; exact belowN (Below.refl _ _) 1
            have F1_O := Lib.hid (HO.out.below hb)
            have F1_B := Lib.hid (joins HB.out hb)
            clear hdw hb
            intro hHeld
            refine' wpAnyH_take (i := 0) (v := _) rfl (by kernel_rfl) (by kernel_rfl) (by kernel_rfl) (fun _ _ _ h => h) (Or.inl ⟨by rfl, ?hy1⟩) (by assumption) ?rest1
            case hy1 =>
              intro w h
              (try clear h)
              go_simp
              (try with_reducible rfl)
            (try simp only [Act.put, List.getElem_toArray, List.getElem_cons_zero, List.setIfInBounds_toArray, List.set_cons_zero, List.set_cons_succ])
            refine' wpAnyH_take (i := 1) (v := _) rfl (by kernel_rfl) (by kernel_rfl) (by kernel_rfl) (fun _ _ _ h => h) (Or.inl ⟨by rfl, ?hy2⟩) (by assumption) ?rest2
            case hy2 =>
              intro w h
              (try clear h)
              go_simp
              (try with_reducible rfl)
            (try simp only [Act.put, List.getElem_toArray, List.getElem_cons_zero, List.getElem_cons_succ, List.setIfInBounds_toArray, List.set_cons_zero, List.set_cons_succ])
            refine' wpAnyH_take (i := 2) (v := _) rfl (by kernel_rfl) (by kernel_rfl) (by kernel_rfl) (fun _ _ _ h => h) (Or.inl ⟨by rfl, ?hy3⟩) (by assumption) ?rest3
            case hy3 =>
              intro w h
              (try clear h)
              go_simp
              (try with_reducible rfl)
            (try simp only [Act.put, List.getElem_toArray, List.getElem_cons_zero, List.getElem_cons_succ, List.setIfInBounds_toArray, List.set_cons_zero, List.set_cons_succ])
            refine' wpAnyH_take (i := 3) (v := _) rfl (by kernel_rfl) (by kernel_rfl) (by kernel_rfl) (fun _ _ _ h => h) (Or.inl ⟨by rfl, ?hy4⟩) (by assumption) ?rest4
            case hy4 =>
              intro w h
              (try clear h)
              go_simp
              (try with_reducible rfl)
            (try simp only [Act.put, List.getElem_toArray, List.getElem_cons_zero, List.getElem_cons_succ, List.setIfInBounds_toArray, List.set_cons_zero, List.set_cons_succ])
            refine' wpAnyH_take (i := 4) (v := _) rfl (by kernel_rfl) (by kernel_rfl) (by kernel_rfl) (fun _ _ _ h => h) (Or.inl ⟨by rfl, ?hy5⟩) (by assumption) ?rest5
            case hy5 =>
              intro w h
              (try clear h)
              go_simp
              (try with_reducible rfl)
            (try simp only [Act.put, List.getElem_toArray, List.getElem_cons_zero, List.getElem_cons_succ, List.setIfInBounds_toArray, List.set_cons_zero, List.set_cons_succ])
            refine' wpAnyH_take (i := 5) (v := _) rfl (by kernel_rfl) (by kernel_rfl) (by kernel_rfl) (fun _ _ _ h => h) (Or.inl ⟨by rfl, ?hy6⟩) (by assumption) ?rest6
            case hy6 =>
              intro w h
              have e1 := HE1.out
              have e0 := HN0.out
              (try clear h)
              go_simp
              (try with_reducible rfl)
            (try simp only [Act.put, List.getElem_toArray, List.getElem_cons_zero, List.getElem_cons_succ, List.setIfInBounds_toArray, List.set_cons_zero, List.set_cons_succ])
            refine' wpAnyH_take (i := 6) (v := _) rfl (by kernel_rfl) (by kernel_rfl) (by kernel_rfl) (fun _ _ _ h => h) (Or.inl ⟨by rfl, ?hy7⟩) (by assumption) ?rest7
            case hy7 =>
              intro w h
              have p0 := hp0
              have p1 := hp1
              (try clear h)
              go_simp
              (try with_reducible rfl)
            (try simp only [Act.put, List.getElem_toArray, List.getElem_cons_zero, List.getElem_cons_succ, List.setIfInBounds_toArray, List.set_cons_zero, List.set_cons_succ])
            refine' wpAnyH_take (i := 7) (v := _) rfl (by kernel_rfl) (by kernel_rfl) (by kernel_rfl) (fun _ _ _ h => h) (Or.inl ⟨by rfl, ?hy8⟩) (by assumption) ?rest8
            case hy8 =>
              intro w h
              have c1 := cellR h HC1.out HNE1.out
              (try clear h)
              go_simp
              (try with_reducible rfl)
            (try simp only [Act.put, List.getElem_toArray, List.getElem_cons_zero, List.getElem_cons_succ, List.setIfInBounds_toArray, List.set_cons_zero, List.set_cons_succ])
            refine' wpAnyH_take (i := 8) (v := _) rfl (by kernel_rfl) (by kernel_rfl) (by kernel_rfl) (fun _ _ _ h => h) (Or.inl ⟨by rfl, ?hy9⟩) (by assumption) ?rest9
            case hy9 =>
              intro w h
              (try clear h)
              go_simp
              (try with_reducible rfl)
            (try simp only [Act.put, List.getElem_toArray, List.getElem_cons_zero, List.getElem_cons_succ, List.setIfInBounds_toArray, List.set_cons_zero, List.set_cons_succ])
            refine' wpAnyH_take (i := 9) (v := _) rfl (by kernel_rfl) (by kernel_rfl) (by kernel_rfl) (fun _ _ _ h => h) (Or.inl ⟨by rfl, ?hy10⟩) (by assumption) ?rest10
            case hy10 =>
              intro w h
              (try clear h)
              go_simp
              (try with_reducible rfl)
            (try simp only [Act.put, List.getElem_toArray, List.getElem_cons_zero, List.getElem_cons_succ, List.setIfInBounds_toArray, List.set_cons_zero, List.set_cons_succ])
            refine' wpAnyH_take (i := 10) (v := _) rfl (by kernel_rfl) (by kernel_rfl) (by kernel_rfl) (fun _ _ _ h => h) (Or.inl ⟨by rfl, ?hy11⟩) (by assumption) ?rest11
            case hy11 =>
              intro w h
              have p0 := hn0
              have p1 := hnn
              (try clear h)
              go_simp
              (try with_reducible rfl)
            (try simp only [Act.put, List.getElem_toArray, List.getElem_cons_zero, List.getElem_cons_succ, List.setIfInBounds_toArray, List.set_cons_zero, List.set_cons_succ])
            refine' wpAnyH_take (i := 11) (v := _) rfl (by kernel_rfl) (by kernel_rfl) (by kernel_rfl) (fun _ _ _ h => h) (Or.inl ⟨by rfl, ?hy12⟩) (by assumption) ?rest12
            case hy12 =>
              intro w h
              have c1 := cellR h HC0.out HNE1.out
              (try clear h)
              go_simp
              (try with_reducible rfl)
            (try simp only [Act.put, List.getElem_toArray, List.getElem_cons_zero, List.getElem_cons_succ, List.setIfInBounds_toArray, List.set_cons_zero, List.set_cons_succ])
            refine' wpAnyH_take (i := 12) (v := _) rfl (by kernel_rfl) (by kernel_rfl) (by kernel_rfl) (fun _ _ _ h => h) (Or.inl ⟨by rfl, ?hy13⟩) (by assumption) ?rest13
            case hy13 =>
              intro w h
              (try clear h)
              go_simp
              (try with_reducible rfl)
            (try simp only [Act.put, List.getElem_toArray, List.getElem_cons_zero, List.getElem_cons_succ, List.setIfInBounds_toArray, List.set_cons_zero, List.set_cons_succ])
            refine' wpAnyH_take (i := 13) (v := _) rfl (by kernel_rfl) (by kernel_rfl) (by kernel_rfl) (fun _ _ _ h => h) (Or.inl ⟨by rfl, ?hy14⟩) (by assumption) ?rest14
            case hy14 =>
              intro w h
              have e1 := HE2.out
              have e0 := HM0.out
              (try clear h)
              go_simp
              (try with_reducible rfl)
            (try simp only [Act.put, List.getElem_toArray, List.getElem_cons_zero, List.getElem_cons_succ, List.setIfInBounds_toArray, List.set_cons_zero, List.set_cons_succ])
            refine' wpAnyH_take (i := 14) (v := _) rfl (by kernel_rfl) (by kernel_rfl) (by kernel_rfl) (fun _ _ _ h => h) (Or.inl ⟨by rfl, ?hy15⟩) (by assumption) ?rest15
            case hy15 =>
              intro w h
              have p0 := hq0
              have p1 := hq1
              (try clear h)
              go_simp
              (try with_reducible rfl)
            (try simp only [Act.put, List.getElem_toArray, List.getElem_cons_zero, List.getElem_cons_succ, List.setIfInBounds_toArray, List.set_cons_zero, List.set_cons_succ])
            refine' wpAnyH_take (i := 15) (v := _) rfl (by kernel_rfl) (by kernel_rfl) (by kernel_rfl) (fun _ _ _ h => h) (Or.inl ⟨by rfl, ?hy16⟩) (by assumption) ?rest16
            case hy16 =>
              intro w h
              have c1 := cellR h HCX.out HNE2.out
              (try clear h)
              go_simp
              (try with_reducible rfl)
            (try simp only [Act.put, List.getElem_toArray, List.getElem_cons_zero, List.getElem_cons_succ, List.setIfInBounds_toArray, List.set_cons_zero, List.set_cons_succ])
            refine wpAnyH_ready (rs := [16]) (by kernel_rfl) (by simp) ?_
            refine AllReadyH.cons rfl (fun K hK => ?_) AllReadyH.nil
            go_simp
            refine hK.out _ _ (grownA hHeld _) (fun hHeld => ?_)
            clear hK K
            (try simp only [Act.put, List.getElem_toArray, List.getElem_cons_zero, List.getElem_cons_succ, List.setIfInBounds_toArray, List.set_cons_zero, List.set_cons_succ])
            refine wpAnyH_ready (rs := [17]) (by kernel_rfl) (by simp) ?_
            refine AllReadyH.cons rfl (fun K hK => ?_) AllReadyH.nil
            refine step_push rfl (.tmp 40) (.tmp 56) rfl w.heap.size _ (gen t F) rfl (F1_O.out.alloc _) d1.heap.size 1 _ rfl (cell_new_one _ _ _) HGL.out w.heap.size w (F1_B.out.alloc F1_B.out.size _) (Nat.le_refl _) (by have := F1_B.out.size; simp; omega) (by have := F1_B.out.size; simp; omega) ?_
            intro v2 w2 ho2 hb2 hg2
            have HO2_ := Lib.hid ho2
            have HB2_ := Lib.hid hb2
            refine hK.out _ _ (grown_trans hHeld hg2) (fun hHeld => ?_)
            clear ho2 hb2 hg2
            clear hK K
            (try simp only [Act.put, List.getElem_toArray, List.getElem_cons_zero, List.getElem_cons_succ, List.setIfInBounds_toArray, List.set_cons_zero, List.set_cons_succ])
            refine' wpAnyH_take (i := 18) (v := _) rfl (by kernel_rfl) (by kernel_rfl) (by kernel_rfl) (fun _ _ _ h => h) (Or.inl ⟨by rfl, ?hy17⟩) (by assumption) ?rest17
            case hy17 =>
              intro w h
              (try clear h)
              go_simp
              (try with_reducible rfl)
            (try simp only [Act.put, List.getElem_toArray, List.getElem_cons_zero, List.getElem_cons_succ, List.setIfInBounds_toArray, List.set_cons_zero, List.set_cons_succ])
            refine wpAnyH_done (by kernel_rfl) ?_ _
            go_wp2_with fail
            go_roundw
            case rel => exact ⟨t + 1, by omega, by go_num, by rw [HGS.out]; exact HO2_.out, HB2_.out⟩
            case measure => simp [intOf]; omega
          · obtain rfl : t = N := by omega
            go_wp2_with fail
            go_returns
            exact ⟨_, rfl, HO.out, HB.out⟩
      · rw [decide_eq_false h32, show (decide (1 = 1) && false) = false from rfl, if_neg Bool.false_ne_true]
        have h32' : (32 : Int) < (N : Int) := by omega
        go_enter Try.func30, Try.ntmps30
        go_wp2_with fail
        refine (HG.out).mono ?_
        rintro e w1 ⟨rfl, hb⟩
        have HB1 := Lib.hid hb
        have c0 := keepc hb HC00.out
        have hpr := HPR.out
        clear hb
        go_wp2_with fail
        refine (HGC.out _).mono ?_
        rintro e w2 ⟨rfl, hb⟩
        have HB2 := Lib.hid (joins HB1.out hb)
        have c1 := keepc hb c0
        clear hb c0
        go_wp2_with fail
        go_returns
        exact ⟨_, rfl, World.ownsRow_nil _ _ _ _, HB2.out⟩
    · rw [decide_eq_false h1, Bool.false_and, if_neg Bool.false_ne_true]
      have h1' : ((gc : Int) != 1) = true := by simp; omega
      have hpr := HPR.out
      go_enter Try.func30, Try.ntmps30
      go_wp2_with fail
      refine (HG.out).mono ?_
      rintro e w1 ⟨rfl, hb⟩
      have HB1 := Lib.hid hb
      have c0 := keepc hb HC00.out
      clear hb
      go_wp2_with fail
      refine (HGC.out _).mono ?_
      rintro e w2 ⟨rfl, hb⟩
      have HB2 := Lib.hid (joins HB1.out hb)
      have c1 := keepc hb c0
      clear hb c0
      go_wp2_with fail
      go_returns
      exact ⟨_, rfl, World.ownsRow_nil _ _ _ _, HB2.out⟩
end Go.Proofs.Ytjoepdflbbcliaa
