/- The program's SendFrame. -/
import Derived.Test.YtoehehaeanepmabIMd
import Derived.Test.YtoehehaeanepmabIMo
import Derived.Test.YtoehehaeanepmabICc
import Derived.Test.YtoehehaeanepmabRg
namespace Go.Proofs.Ytoehehaeanepmab
set_option maxRecDepth 100000
open Go.RowKit

set_option maxRecDepth 100000 in
set_option maxHeartbeats 4000000 in
theorem iSendFrame (va vb : Value) (known bits : List Int) (k : Int) (w : World) (hva : IS w va known) (hvb : IS w vb bits) (hla : known.length ≤ 1048576) (hlb : bits.length ≤ 1048576) : Calls Try.prog 25 #[va, vb, .int .i64 k] w (MakesGB w (sfF known bits k) (sfOk known bits k)) := by
  have HP := Lib.hid (isSequence_any va known w hva hla)
  have HBS := Lib.hid (fun w h => areSent_any vb bits w h hlb)
  obtain ⟨pa, ca, rfl⟩ := hva.slice
  obtain ⟨pb, cb, rfl⟩ := hvb.slice
  have HVA := Lib.hid hva
  have HVB := Lib.hid hvb
  have hok : sfOk known bits k = (isSeq known && decide (1 ≤ known.length) && seOk bits && inB k 1 1000 && decide (known.length + bits.length / 2 ≤ 48)) := rfl
  obtain ⟨N, hN⟩ : ∃ N, N = known.length := ⟨_, rfl⟩
  obtain ⟨M, hM⟩ : ∃ N, N = bits.length := ⟨_, rfl⟩
  rw [← hN] at HP HVA ⊢
  rw [← hM] at HBS HVB ⊢
  cases h1 : isSeq known with
  | false =>
    have ho : sfOk known bits k = false := by rw [hok, h1]; rfl
    have hf : sfF known bits k = [] := by unfold sfF; rw [ho]; rfl
    rw [ho, hf]
    rw [h1] at HP
    clear ho hf hok hva hvb hla hlb h1 hN hM
    go_enter Try.func25, Try.ntmps25
    go_wp2_with fail
    refine (HP.out).mono ?_
    rintro e w1 ⟨rfl, hb1⟩
    go_wp2_with fail
    go_returns
    exact ⟨_, rfl, OwnG.nil _ _, hb1⟩
  | true =>
  rw [h1] at HP
  by_cases h2 : 1 ≤ N
  case neg =>
    have ho : sfOk known bits k = false := by rw [hok, ← hN, decide_eq_false h2, Bool.and_false]; rfl
    have hf : sfF known bits k = [] := by unfold sfF; rw [ho]; rfl
    rw [ho, hf]
    obtain rfl : N = 0 := by omega
    clear ho hf hok hva hvb hla hlb h1 hN hM h2
    go_enter Try.func25, Try.ntmps25
    go_wp2_with fail
    refine (HP.out).mono ?_
    rintro e w1 ⟨rfl, hb1⟩
    go_wp2_with fail
    go_returns
    exact ⟨_, rfl, OwnG.nil _ _, hb1⟩
  have h2i : (1 : Int) ≤ (N : Int) := by omega
  cases h3 : seOk bits with
  | false =>
    have ho : sfOk known bits k = false := by rw [hok, h3, Bool.and_false]; rfl
    have hf : sfF known bits k = [] := by unfold sfF; rw [ho]; rfl
    rw [ho, hf]
    rw [h3] at HBS
    clear ho hf hok hva hvb hla hlb h1 hN hM h2 h3
    go_enter Try.func25, Try.ntmps25
    go_wp2_with fail
    refine (HP.out).mono ?_
    rintro e w1 ⟨rfl, hb1⟩
    go_wp2_with fail
    refine (HBS.out _ (HVB.out.below hb1)).mono ?_
    rintro e w2 ⟨rfl, hb2⟩
    have hb3 := joins hb1 hb2
    go_wp2_with fail
    go_returns
    exact ⟨_, rfl, OwnG.nil _ _, hb3⟩
  | true =>
  rw [h3] at HBS
  have hk32 := isSeq_len h1
  have hb64 := bsOk_len (seOk_bs h3)
  obtain ⟨c, hc⟩ : ∃ c, c = known.getD (known.length - 1) 0 := ⟨_, rfl⟩
  have hcin : 0 ≤ c ∧ c ≤ 3 := by rw [hc]; exact allIn_getD (isSeq_all h1) _ (by omega)
  have hml : (moL bits).length ≤ 32 := by rw [moL_length]; omega
  have HPB := Lib.hid (fun w h => phasesOfBits_any (.slice pb M cb) bits w h h3)
  have HST := Lib.hid (fun v w h => stepped_any c hcin v (moL bits) w h (by omega) (isSeq_all (moL_seq h3)))
  have HLK := Lib.hid (show 1 ≤ known.length ∧ known.length ≤ 500 ∧ (fsL c (moL bits)).length ≤ 500 from ⟨by omega, by omega, by rw [fsL_length]; omega⟩)
  have hal : sfAll known bits = known ++ fsL c (moL bits) := by rw [hc]; rfl
  have HSC := Lib.hid (show ∀ v w, IS w v (known ++ fsL c (moL bits)) → Calls Try.prog 37 #[v, .int .i64 k] w (MakesGB w (sfF known bits k) (sfOk known bits k)) from fun v w h => by
    rw [← hal] at h
    have hsl := sfAll_length known bits
    have hsa := sfAll_all (bits := bits) h1
    by_cases h5 : 1 ≤ k ∧ k ≤ 1000
    · by_cases h6 : known.length + bits.length / 2 ≤ 48
      · have ho : sfOk known bits k = true := by rw [hok, h1, h3, decide_eq_true (show 1 ≤ known.length by omega), decide_eq_true h6]; simp [inB, h5]
        have hf : sfF known bits k = scL (sfAll known bits) k := by unfold sfF; rw [ho]; rfl
        rw [ho, hf]
        exact scaled_in v (sfAll known bits) k w h hsa (by omega) h5.1 h5.2
      · have ho : sfOk known bits k = false := by rw [hok, decide_eq_false h6, Bool.and_false]
        have hf : sfF known bits k = [] := by unfold sfF; rw [ho]; rfl
        rw [ho, hf]
        exact scaled_no v (sfAll known bits) k w h (by omega)
    · have ho : sfOk known bits k = false := by
        rw [hok, show inB k 1 1000 = false by unfold inB; rw [Bool.and_eq_false_iff, decide_eq_false_iff_not, decide_eq_false_iff_not]; omega, Bool.and_false]; rfl
      have hf : sfF known bits k = [] := by unfold sfF; rw [ho]; rfl
      rw [ho, hf]
      exact scaled_no v (sfAll known bits) k w h (by omega))
  obtain ⟨L, hL⟩ : ∃ L, L = sfF known bits k := ⟨_, rfl⟩
  obtain ⟨q, hq⟩ : ∃ L, L = sfOk known bits k := ⟨_, rfl⟩
  rw [← hL, ← hq] at HSC ⊢
  obtain ⟨t, ht⟩ : ∃ t, t = N - 1 := ⟨_, rfl⟩
  have HT1 := Lib.hid (show IntKind.i64.wrap ((N : Int) - 1) = (t : Int) by rw [wrI _ ⟨by omega, by omega⟩]; omega)
  have ht0 : (0 : Int) ≤ (t : Int) := by omega
  have ht1 : (t : Int) < (N : Int) := by omega
  obtain ⟨b, off, hpa, hcl⟩ := IS.cellsAt (a := pa) (cap := ca) (l := known) (by rw [← hN]; exact HVA.out) (by omega)
  have HCW := Lib.hid (show w.cell? ⟨b, off + t, none⟩ = some (.int .i64 c) by rw [hc, ← hN, ← ht]; exact hcl t (by omega))
  subst hpa
  clear hok hva hvb hla hlb h1 hN hM h2 h3 hk32 hb64 hc hcin hml hal hL hq ht hcl
  go_enter Try.func25, Try.ntmps25
  go_wp2_with fail
  refine (HP.out).mono ?_
  rintro e w1 ⟨rfl, hb1⟩
  have HB1 := Lib.hid hb1
  clear hb1
  go_wp2_with fail
  refine (HBS.out _ (HVB.out.below HB1.out)).mono ?_
  rintro e w2 ⟨rfl, hb2⟩
  have HB2 := Lib.hid (joins HB1.out hb2)
  have HVA2 := Lib.hid (HVA.out.below HB2.out)
  have HVB2 := Lib.hid (HVB.out.below HB2.out)
  have HC1 := Lib.hid (keepc HB2.out HCW.out)
  clear hb2
  go_wp2_with fail
  refine wp_region_held_drew (S := (fun w' => World.grownBy w2 w' none)) (by kernel_rfl) (grownDrew (World.grownBy.refl _ _)) ?_
  obtain ⟨d1, hdw⟩ : ∃ w', w' = w2.drew := ⟨_, rfl⟩
  rw [← hdw]
  have hb : Below w2.heap.size w2 d1 := by rw [hdw]; exact belowN (Below.refl _ _) 1
  have F1_VA := Lib.hid (HVA2.out.below hb)
  have F1_VB := Lib.hid (HVB2.out.below hb)
  have F1_B := Lib.hid (joins HB2.out hb)
  clear hdw hb
  intro hHeld
  refine' wpAnyH_take (i := 0) (v := _) rfl (by kernel_rfl) (by kernel_rfl) (by kernel_rfl) (fun _ _ _ h => h) (Or.inl ⟨by rfl, ?hy1⟩) (by assumption) ?rest1
  case hy1 =>
    intro w h
    (try clear h)
    go_simp
    (try with_reducible rfl)
  (try simp only [Act.put, List.getElem_toArray, List.getElem_cons_zero, List.setIfInBounds_toArray, List.set_cons_zero, List.set_cons_succ])
  refine' wpAnyH_take (i := 1) (v := _) rfl (by kernel_rfl) (by kernel_rfl) (by kernel_rfl) (fun _ _ _ h => h) (Or.inl ⟨by rfl, ?hy2⟩) (by assumption) ?rest2
  case hy2 =>
    intro w h
    (try clear h)
    go_simp
    (try with_reducible rfl)
  (try simp only [Act.put, List.getElem_toArray, List.getElem_cons_zero, List.getElem_cons_succ, List.setIfInBounds_toArray, List.set_cons_zero, List.set_cons_succ])
  refine' wpAnyH_take (i := 2) (v := _) rfl (by kernel_rfl) (by kernel_rfl) (by kernel_rfl) (fun _ _ _ h => h) (Or.inl ⟨by rfl, ?hy3⟩) (by assumption) ?rest3
  case hy3 =>
    intro w h
    (try clear h)
    go_simp
    (try with_reducible rfl)
  (try simp only [Act.put, List.getElem_toArray, List.getElem_cons_zero, List.getElem_cons_succ, List.setIfInBounds_toArray, List.set_cons_zero, List.set_cons_succ])
  refine' wpAnyH_take (i := 3) (v := _) rfl (by kernel_rfl) (by kernel_rfl) (by kernel_rfl) (fun _ _ _ h => h) (Or.inl ⟨by rfl, ?hy4⟩) (by assumption) ?rest4
  case hy4 =>
    intro w h
    have e1 := HT1.out
    (try clear h)
    go_simp
    (try with_reducible rfl)
  (try simp only [Act.put, List.getElem_toArray, List.getElem_cons_zero, List.getElem_cons_succ, List.setIfInBounds_toArray, List.set_cons_zero, List.set_cons_succ])
  refine' wpAnyH_take (i := 4) (v := _) rfl (by kernel_rfl) (by kernel_rfl) (by kernel_rfl) (fun _ _ _ h => h) (Or.inl ⟨by rfl, ?hy5⟩) (by assumption) ?rest5
  case hy5 =>
    intro w h
    (try clear h)
    go_simp
    (try with_reducible rfl)
  (try simp only [Act.put, List.getElem_toArray, List.getElem_cons_zero, List.getElem_cons_succ, List.setIfInBounds_toArray, List.set_cons_zero, List.set_cons_succ])
  refine' wpAnyH_take (i := 5) (v := _) rfl (by kernel_rfl) (by kernel_rfl) (by kernel_rfl) (fun _ _ _ h => h) (Or.inl ⟨by rfl, ?hy6⟩) (by assumption) ?rest6
  case hy6 =>
    intro w h
    have c1 := cellR h HC1.out (by simp)
    (try clear h)
    go_simp
    (try with_reducible rfl)
  (try simp only [Act.put, List.getElem_toArray, List.getElem_cons_zero, List.getElem_cons_succ, List.setIfInBounds_toArray, List.set_cons_zero, List.set_cons_succ])
  refine' wpAnyH_take (i := 6) (v := _) rfl (by kernel_rfl) (by kernel_rfl) (by kernel_rfl) (fun _ _ _ h => h) (Or.inl ⟨by rfl, ?hy7⟩) (by assumption) ?rest7
  case hy7 =>
    intro w h
    (try clear h)
    go_simp
    (try with_reducible rfl)
  (try simp only [Act.put, List.getElem_toArray, List.getElem_cons_zero, List.getElem_cons_succ, List.setIfInBounds_toArray, List.set_cons_zero, List.set_cons_succ])
  refine wpAnyH_ready (rs := [7]) (by kernel_rfl) (by simp) ?_
  refine AllReadyH.cons rfl (fun K hK => ?_) AllReadyH.nil
  go_simp
  refine (HPB.out _ F1_VB.out).mono ?_
  rintro e d2 ⟨vpb, rfl, ho, hb⟩
  have F2_VA := Lib.hid (F1_VA.out.below hb)
  have F2_VB := Lib.hid (F1_VB.out.below hb)
  have F2_B := Lib.hid (joins F1_B.out hb)
  have F2_MB := Lib.hid ho
  have hHeld := grownB hHeld hb
  clear ho hb
  refine hK.out _ _ hHeld (fun hHeld => ?_)
  clear hK K
  (try simp only [Act.put, List.getElem_toArray, List.getElem_cons_zero, List.getElem_cons_succ, List.setIfInBounds_toArray, List.set_cons_zero, List.set_cons_succ])
  refine wpAnyH_ready (rs := [8]) (by kernel_rfl) (by simp) ?_
  refine AllReadyH.cons rfl (fun K hK => ?_) AllReadyH.nil
  go_simp
  refine (HST.out _ _ F2_MB.out.is).mono ?_
  rintro e d3 ⟨vst, rfl, ho, hb⟩
  have F3_VA := Lib.hid (F2_VA.out.below hb)
  have F3_VB := Lib.hid (F2_VB.out.below hb)
  have F3_B := Lib.hid (joins F2_B.out hb)
  have F3_MB := Lib.hid (F2_MB.out.below hb)
  have F3_MS := Lib.hid ho
  have hHeld := grownB hHeld hb
  clear ho hb
  refine hK.out _ _ hHeld (fun hHeld => ?_)
  clear hK K
  (try simp only [Act.put, List.getElem_toArray, List.getElem_cons_zero, List.getElem_cons_succ, List.setIfInBounds_toArray, List.set_cons_zero, List.set_cons_succ])
  refine' wpAnyH_take (i := 9) (v := _) rfl (by kernel_rfl) (by kernel_rfl) (by kernel_rfl) (fun _ _ _ h => h) (Or.inl ⟨by rfl, ?hy8⟩) (by assumption) ?rest8
  case hy8 =>
    intro w h
    (try clear h)
    go_simp
    (try with_reducible rfl)
  (try simp only [Act.put, List.getElem_toArray, List.getElem_cons_zero, List.getElem_cons_succ, List.setIfInBounds_toArray, List.set_cons_zero, List.set_cons_succ])
  refine wpAnyH_done (by kernel_rfl) ?_ _
  have HMS := Lib.hid F3_MS.out
  have HVA5 := Lib.hid F3_VA.out
  have HB5 := Lib.hid F3_B.out
  obtain ⟨w5, hw5⟩ : ∃ w', w' = d3 := ⟨_, rfl⟩
  rw [← hw5] at HMS HVA5 HB5 ⊢
  obtain ⟨ra, rc, hre⟩ := HMS.out.is.slice
  obtain ⟨rl, hrl⟩ : ∃ n, n = (fsL c (moL bits)).length := ⟨_, rfl⟩
  rw [← hrl] at hre
  subst hre
  have HU1 := Lib.hid (HVA5.out.below (belowa (Below.refl _ _) (.cells #[.slice (some ⟨b, off, none⟩) N ca, .slice ra rl rc] 22)))
  have HU2 := Lib.hid (HMS.out.is.below (belowa (Below.refl _ _) (.cells #[.slice (some ⟨b, off, none⟩) N ca, .slice ra rl rc] 22)))
  have HB6 := Lib.hid (belowa HB5.out (.cells #[.slice (some ⟨b, off, none⟩) N ca, .slice ra rl rc] 22))
  clear hw5 hHeld hrl
  go_wp2_with fail
  refine (concat_any _ _ _ _ known (fsL c (moL bits)) _ (cell_new0 _ _ _ _) (cell_new1 _ _ _ _) HU1.out HU2.out HLK.out.1 HLK.out.2.1 HLK.out.2.2).mono ?_
  rintro e w7 ⟨v7, rfl, ho7, hb7⟩
  have HO7 := Lib.hid ho7
  have HB7 := Lib.hid (joins HB6.out hb7)
  clear ho7 hb7
  go_wp2_with fail
  refine (HSC.out _ _ HO7.out.is).mono ?_
  rintro e w8 ⟨v8, rfl, ho8, hb8⟩
  have HO8 := Lib.hid (OwnG.mono ho8 HB7.out.size)
  have HB8 := Lib.hid (joins HB7.out hb8)
  clear ho8 hb8
  go_wp2_with fail
  go_returns
  exact ⟨_, rfl, HO8.out, HB8.out⟩
end Go.Proofs.Ytoehehaeanepmab
