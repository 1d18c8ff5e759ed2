/- The program's convolved. -/
import Derived.Test.YtgibdndckoapfabSd
import Derived.Test.YtgibdndckoapfabIPl
namespace Go.Proofs.Ytgibdndckoapfab
set_option maxRecDepth 100000
open Go.RowKit

set_option maxRecDepth 100000 in
set_option maxHeartbeats 4000000 in
theorem convolved_any (g1 g2 n : Nat) (B1 B2 : Nat) (C D : Nat → Nat × Nat) (a b : List (Int × Int)) (ht : twOk a b = true) (hn : n = a.length) (w : World) (h1 : RowC w B1 g1 n C) (h2 : RowC w B2 g2 n D) (z1 : CZ C (gre a) (gim a) n) (z2 : CZ D (gre b) (gim b) n) :
    Calls Try.prog 44 #[.slice (some ⟨g1, 0, none⟩) n n, .slice (some ⟨g2, 0, none⟩) n n] w (MakesD w n (fun u => sumN (cvX a b u) n) (fun u => sumN (cvY a b u) n)) := by
  obtain ⟨i0, hi, hz0, hz1, hz2⟩ := info_parts infoD
  obtain ⟨hta, htb, hab⟩ := twOk_parts ht
  have hlen := tfOk_len hta
  have hsz := tfOk_sz hta
  have hle := fun u x => cv_le ht u x
  have hga := fun i hi => good_at hta i hi
  have hgb := fun i hi => good_at htb i hi
  rw [← hab] at hgb
  rw [← hn] at hlen hsz hle hga hgb
  obtain ⟨T, hT⟩ : ∃ T, T = cvX a b := ⟨_, rfl⟩
  obtain ⟨S, hS⟩ : ∃ T, T = cvY a b := ⟨_, rfl⟩
  rw [← hT, ← hS] at hle ⊢
  obtain ⟨A1, hA1⟩ : ∃ A1, A1 = gre a := ⟨_, rfl⟩
  obtain ⟨A2, hA2⟩ : ∃ A1, A1 = gim a := ⟨_, rfl⟩
  obtain ⟨b1, hB1⟩ : ∃ A1, A1 = gre b := ⟨_, rfl⟩
  obtain ⟨b2, hB2⟩ : ∃ A1, A1 = gim b := ⟨_, rfl⟩
  have hTe : ∀ u x, T u x = mulX (A1 x) (A2 x) (b1 (sbP u x)) (b2 (sbP u x)) := fun u x => by rw [hT, hA1, hA2, hB1, hB2]; rfl
  have hSe : ∀ u x, S u x = mulY (A1 x) (A2 x) (b1 (sbP u x)) (b2 (sbP u x)) := fun u x => by rw [hS, hA1, hA2, hB1, hB2]; rfl
  rw [← hA1, ← hA2] at hga z1
  rw [← hB1, ← hB2] at hgb z2
  have HTE := Lib.hid (And.intro hTe hSe)
  have HLE := Lib.hid hle
  have HSZ := Lib.hid hsz
  have HG := Lib.hid (And.intro hga hgb)
  have HZ := Lib.hid (And.intro z1 z2)
  have HR1 := Lib.hid h1
  have HR2 := Lib.hid h2
  obtain ⟨hl1, hl2⟩ := hlen
  clear ht hab hta htb hn hT hS hA1 hA2 hB1 hB2 hTe hSe hga hgb hle hsz h1 h2 z1 z2
  go_enter Try.func44, Try.ntmps44
  go_wp2_with (at_make; refine wpList_make_full _ rfl _ _ 92 rfl w.heap.size 93 i0 (.complex .f64 0 0) 1 Try.underlying92 hi hz0 hz1 _ _ _ _ n rfl rfl rfl rfl ?b2 ?b3 (Nat.le_refl _) ?_)
  case b2 => rw [hz2]; omega
  case b3 => unfold maxLen; omega
  intro w0 hown0 hgrow0
  have hrow0 : RowD w0 w.heap.size w.heap.size n (fun _ => (0, 0)) := by
    unfold RowD
    rw [← dx_zeros]
    simpa using hown0
  have HB0 := Lib.hid (show Below w.heap.size w w0 from (Below.refl _ _).grown hgrow0 (Nat.le_refl _) (fun k h => by cases h))
  have HR0 := Lib.hid hrow0
  clear hown0 hgrow0 hrow0
  go_wp2_with fail
  go_loopw [13] (fun i wr => ∃ (k : Nat) (E : Nat → Nat × Nat), k ≤ n ∧ i = .int .i64 k ∧ RowD wr w.heap.size w.heap.size n E ∧ (∀ u, u < n → FK .f64 (E u).1 (sumN (T u) k) ∧ FK .f64 (E u).2 (sumN (S u) k)) ∧ Below w.heap.size w wr) (fun i _ => n - (intOf i).toNat)
  case atStart => exact ⟨0, _, Nat.zero_le _, rfl, HR0.out, fun u hu => by exact ⟨FK_zero _, FK_zero _⟩, HB0.out⟩
  case round =>
    obtain ⟨k, E, hk, rfl, hrow, hfk, hbel⟩ := hrel
    by_cases hlt : k < n
    · have h0 : (0 : Int) ≤ (k : Int) := by omega
      have h1 : (k : Int) < (n : Int) := by omega
      have HB := Lib.hid hbel
      have HR := Lib.hid hrow
      have HF := Lib.hid hfk
      clear hbel hrow hfk
      obtain ⟨w2, hw2⟩ : ∃ w2, w2 = wr := ⟨_, rfl⟩
      rw [← hw2]
      rw [← hw2] at HB HR
      clear hw2
      go_wp2_with fail
      go_loopw [18] (fun i wr => ∃ (j : Nat) (E : Nat → Nat × Nat), j ≤ n ∧ i = .int .i64 j ∧ RowD wr w.heap.size w.heap.size n E ∧ (∀ u, u < n → FK .f64 (E u).1 (sumN (T u) k + (if sbP u k < j then T u k else 0)) ∧ FK .f64 (E u).2 (sumN (S u) k + (if sbP u k < j then S u k else 0))) ∧ Below w.heap.size w wr) (fun i _ => n - (intOf i).toNat)
      case atStart => exact ⟨0, E, Nat.zero_le _, rfl, HR.out, fun u hu => by
        have h := HF.out u hu
        rw [if_neg (Nat.not_lt_zero _), if_neg (Nat.not_lt_zero _), Int.add_zero, Int.add_zero]; exact h, HB.out⟩
      case round =>
        clear HB HR HF E
        obtain ⟨j, E, hj, rfl, hrow, hfk, hbel⟩ := hrel
        by_cases hjl : j < n
        · have hp := adP_lt HSZ.out k j hlt hjl
          obtain ⟨P, hP⟩ : ∃ P, P = adP k j := ⟨_, rfl⟩
          have hS := sb_ad k j (by omega) (by omega)
          have HA := Lib.hid (addedPlaces_any k j (by omega) (by omega))
          have t1 := HTE.out.1 P k
          have t2 := HTE.out.2 P k
          rw [← hP] at hp HA
          have g1_ := HG.out.1 k (by omega)
          have g2_ := HG.out.2 j hjl
          have q1 := HZ.out.1 k (by omega)
          have q2 := HZ.out.2 j hjl
          have c1 := (HR1.out.below hbel).cell k (by omega)
          have c2 := (HR2.out.below hbel).cell j hjl
          have c3 := hrow.cell P (by omega)
          have n1 : (some w.heap.size : Option Nat) ≠ some g1 := fun e => by have := HR1.out.lt; have := Option.some.inj e; omega
          have n2 : (some w.heap.size : Option Nat) ≠ some g2 := fun e => by have := HR2.out.lt; have := Option.some.inj e; omega
          have v3 := hfk P (by omega)
          rw [show (sumN (T P) k + (if sbP P k < j then T P k else 0)) = sumN (T P) k from by rw [show sbP P k = j by rw [hP, hS], if_neg (Nat.lt_irrefl _), Int.add_zero], show (sumN (S P) k + (if sbP P k < j then S P k else 0)) = sumN (S P) k from by rw [show sbP P k = j by rw [hP, hS], if_neg (Nat.lt_irrefl _), Int.add_zero]] at v3
          have l1 := sumT_le (T P) n hl2 (fun x hx => (HLE.out P x (by omega) hx).1)
          have l2 := sumT_le (S P) n hl2 (fun x hx => (HLE.out P x (by omega) hx).2)
          obtain ⟨p1, p2, e1, y1, y2⟩ := FC_conv64 q1.1 q1.2 g1_.1 g1_.2
          obtain ⟨p3, p4, e2, y3, y4⟩ := FC_conv64 q2.1 q2.2 g2_.1 g2_.2
          obtain ⟨m1, m2, e3, y5, y6⟩ := FC_mul64 y1 y2 y3 y4 g1_.1 g1_.2 g2_.1 (by omega)
          rw [show mulX (A1 k) (A2 k) (b1 j) (b2 j) = T P k by rw [t1, hP, hS]] at y5
          rw [show mulY (A1 k) (A2 k) (b1 j) (b2 j) = S P k by rw [t2, hP, hS]] at y6
          obtain ⟨s1, s2, e4, y7, y8⟩ := FC_add64 v3.1 v3.2 y5 y6 (by have := l1 (k + 1) (by omega); have : sumN (T P) k + T P k = sumN (T P) (k + 1) := rfl; omega) (by have := l2 (k + 1) (by omega); have : sumN (S P) k + S P k = sumN (S P) (k + 1) := rfl; omega)
          have hnf : ∀ u, u < n → FK .f64 ((setC E P (s1, s2)) u).1 (sumN (T u) k + (if sbP u k < (j + 1) then T u k else 0)) ∧ FK .f64 ((setC E P (s1, s2)) u).2 (sumN (S u) k + (if sbP u k < (j + 1) then S u k else 0)) := fun u hu => by
            by_cases hu0 : u = P
            · have hx1 : (sumN (T u) k + (if sbP u k < (j + 1) then T u k else 0)) = sumN (T P) k + T P k := by rw [hu0, show sbP P k = j by rw [hP, hS], if_pos (Nat.lt_succ_self _)]
              have hx2 : (sumN (S u) k + (if sbP u k < (j + 1) then S u k else 0)) = sumN (S P) k + S P k := by rw [hu0, show sbP P k = j by rw [hP, hS], if_pos (Nat.lt_succ_self _)]
              rw [hx1, hx2, show setC E P (s1, s2) u = (s1, s2) from if_pos hu0]
              exact ⟨y7, y8⟩
            · have hx1 : (sumN (T u) k + (if sbP u k < (j + 1) then T u k else 0)) = (sumN (T u) k + (if sbP u k < j then T u k else 0)) := by 
                have hne : sbP u k ≠ j := fun e => hu0 (by rw [hP, ← e, ad_sb u k (by omega) (by omega)])
                by_cases hc : sbP u k < j
                · rw [if_pos hc, if_pos (by omega)]
                · rw [if_neg hc, if_neg (by omega)]
              have hx2 : (sumN (S u) k + (if sbP u k < (j + 1) then S u k else 0)) = (sumN (S u) k + (if sbP u k < j then S u k else 0)) := by 
                have hne2 : sbP u k ≠ j := fun e => hu0 (by rw [hP, ← e, ad_sb u k (by omega) (by omega)])
                by_cases hc : sbP u k < j
                · rw [if_pos hc, if_pos (by omega)]
                · rw [if_neg hc, if_neg (by omega)]
              rw [hx1, hx2, show setC E P (s1, s2) u = E u from if_neg hu0]
              exact hfk u hu
          have HNF := Lib.hid hnf
          have HV1 := Lib.hid (fun w => run_convert_complex (P := Try.prog) w 69 93 .f32 .f64 _ _ _ _ rfl Try.underlying93 e1)
          have HV2 := Lib.hid (fun w => run_convert_complex (P := Try.prog) w 69 93 .f32 .f64 _ _ _ _ rfl Try.underlying93 e2)
          have HMU := Lib.hid (fun w t => run_complex_mul (P := Try.prog) w t _ _ _ _ _ _ e3)
          have HAD := Lib.hid (fun w t => run_complex_sum (P := Try.prog) w .add (Or.inl rfl) t .f64 _ _ _ _ _ _ e4)
          have CA := Lib.hid c1
          have CB := Lib.hid c2
          have CS := Lib.hid c3
          have HR := Lib.hid hrow
          have NA := Lib.hid n1
          have NB := Lib.hid n2
          have HB := Lib.hid hbel
          obtain ⟨r1, hr1⟩ : ∃ r, r = (C k).1 := ⟨_, rfl⟩
          obtain ⟨r2, hr2⟩ : ∃ r, r = (C k).2 := ⟨_, rfl⟩
          obtain ⟨r3, hr3⟩ : ∃ r, r = (D j).1 := ⟨_, rfl⟩
          obtain ⟨r4, hr4⟩ : ∃ r, r = (D j).2 := ⟨_, rfl⟩
          obtain ⟨r5, hr5⟩ : ∃ r, r = (E P).1 := ⟨_, rfl⟩
          obtain ⟨r6, hr6⟩ : ∃ r, r = (E P).2 := ⟨_, rfl⟩
          rw [← hr1, ← hr2] at CA HV1
          rw [← hr3, ← hr4] at CB
          rw [← hr3, ← hr4] at HV2
          rw [← hr5, ← hr6] at CS HAD
          have hj0 : (0 : Int) ≤ (j : Int) := by omega
          have hj1 : (j : Int) < (n : Int) := by omega
          have hp0 : (0 : Int) ≤ (P : Int) := by omega
          have hp1 : (P : Int) < (n : Int) := by omega
          clear hp hP hS t1 t2 g1_ g2_ q1 q2 c1 c2 c3 n1 n2 v3 l1 l2 e1 y1 y2 e2 y3 y4 e3 y5 y6 e4 y7 y8 hnf hr1 hr2 hr3 hr4 hr5 hr6 hrow hfk hbel
          go_wp2_with fail
          refine wp_region_held_drew (S := (fun w' => World.grownBy wr w' (some (w.heap.size)))) (by kernel_rfl) (grownDrew (World.grownBy.refl _ _)) ?_
          obtain ⟨d1, hdw⟩ : ∃ w', w' = wr.drew := ⟨_, rfl⟩
          rw [← hdw]
          have hb : Below wr.heap.size wr d1 := by rw [hdw]; exact belowN (Below.refl _ _) 1
          have F1_CS := Lib.hid (keepc hb CS.out)
          have F1_HR := Lib.hid (RowD.below HR.out hb)
          have F1_HB := Lib.hid (joins HB.out hb)
          clear hdw hb
          intro hHeld
          refine' wpAnyH_take (i := 0) (v := _) rfl (by kernel_rfl) (by kernel_rfl) (by kernel_rfl) (fun _ _ _ h => h) (Or.inl ⟨by rfl, ?hy1⟩) (by assumption) ?rest1
          case hy1 =>
            intro w h
            (try clear h)
            go_simp
            (try with_reducible rfl)
          (try simp only [Act.put, List.getElem_toArray, List.getElem_cons_zero, List.setIfInBounds_toArray, List.set_cons_zero, List.set_cons_succ])
          refine' wpAnyH_take (i := 1) (v := _) rfl (by kernel_rfl) (by kernel_rfl) (by kernel_rfl) (fun _ _ _ h => h) (Or.inl ⟨by rfl, ?hy2⟩) (by assumption) ?rest2
          case hy2 =>
            intro w h
            (try clear h)
            go_simp
            (try with_reducible rfl)
          (try simp only [Act.put, List.getElem_toArray, List.getElem_cons_zero, List.getElem_cons_succ, List.setIfInBounds_toArray, List.set_cons_zero, List.set_cons_succ])
          refine' wpAnyH_take (i := 2) (v := _) rfl (by kernel_rfl) (by kernel_rfl) (by kernel_rfl) (fun _ _ _ h => h) (Or.inl ⟨by rfl, ?hy3⟩) (by assumption) ?rest3
          case hy3 =>
            intro w h
            (try clear h)
            go_simp
            (try with_reducible rfl)
          (try simp only [Act.put, List.getElem_toArray, List.getElem_cons_zero, List.getElem_cons_succ, List.setIfInBounds_toArray, List.set_cons_zero, List.set_cons_succ])
          refine' wpAnyH_take (i := 6) (v := _) rfl (by kernel_rfl) (by kernel_rfl) (by kernel_rfl) (fun _ _ _ h => h) (Or.inl ⟨by rfl, ?hy4⟩) (by assumption) ?rest4
          case hy4 =>
            intro w h
            (try clear h)
            go_simp
            (try with_reducible rfl)
          (try simp only [Act.put, List.getElem_toArray, List.getElem_cons_zero, List.getElem_cons_succ, List.setIfInBounds_toArray, List.set_cons_zero, List.set_cons_succ])
          refine' wpAnyH_take (i := 7) (v := _) rfl (by kernel_rfl) (by kernel_rfl) (by kernel_rfl) (fun _ _ _ h => h) (Or.inl ⟨by rfl, ?hy5⟩) (by assumption) ?rest5
          case hy5 =>
            intro w h
            (try clear h)
            go_simp
            (try with_reducible rfl)
          (try simp only [Act.put, List.getElem_toArray, List.getElem_cons_zero, List.getElem_cons_succ, List.setIfInBounds_toArray, List.set_cons_zero, List.set_cons_succ])
          refine' wpAnyH_take (i := 8) (v := _) rfl (by kernel_rfl) (by kernel_rfl) (by kernel_rfl) (fun _ _ _ h => h) (Or.inl ⟨by rfl, ?hy6⟩) (by assumption) ?rest6
          case hy6 =>
            intro w h
            (try clear h)
            go_simp
            (try with_reducible rfl)
          (try simp only [Act.put, List.getElem_toArray, List.getElem_cons_zero, List.getElem_cons_succ, List.setIfInBounds_toArray, List.set_cons_zero, List.set_cons_succ])
          refine' wpAnyH_take (i := 9) (v := _) rfl (by kernel_rfl) (by kernel_rfl) (by kernel_rfl) (fun _ _ _ h => h) (Or.inl ⟨by rfl, ?hy7⟩) (by assumption) ?rest7
          case hy7 =>
            intro w h
            have c1 := cellR h CA.out NA.out
            (try clear h)
            go_simp
            (try with_reducible rfl)
          (try simp only [Act.put, List.getElem_toArray, List.getElem_cons_zero, List.getElem_cons_succ, List.setIfInBounds_toArray, List.set_cons_zero, List.set_cons_succ])
          refine' wpAnyH_take (i := 10) (v := _) rfl (by kernel_rfl) (by kernel_rfl) (by kernel_rfl) (fun _ _ _ h => h) (Or.inl ⟨by rfl, ?hy8⟩) (by assumption) ?rest8
          case hy8 =>
            intro w h
            have c1 := HV1.out
            (try clear h)
            go_simp
            (try with_reducible rfl)
          (try simp only [Act.put, List.getElem_toArray, List.getElem_cons_zero, List.getElem_cons_succ, List.setIfInBounds_toArray, List.set_cons_zero, List.set_cons_succ])
          refine' wpAnyH_take (i := 11) (v := _) rfl (by kernel_rfl) (by kernel_rfl) (by kernel_rfl) (fun _ _ _ h => h) (Or.inl ⟨by rfl, ?hy9⟩) (by assumption) ?rest9
          case hy9 =>
            intro w h
            (try clear h)
            go_simp
            (try with_reducible rfl)
          (try simp only [Act.put, List.getElem_toArray, List.getElem_cons_zero, List.getElem_cons_succ, List.setIfInBounds_toArray, List.set_cons_zero, List.set_cons_succ])
          refine' wpAnyH_take (i := 12) (v := _) rfl (by kernel_rfl) (by kernel_rfl) (by kernel_rfl) (fun _ _ _ h => h) (Or.inl ⟨by rfl, ?hy10⟩) (by assumption) ?rest10
          case hy10 =>
            intro w h
            (try clear h)
            go_simp
            (try with_reducible rfl)
          (try simp only [Act.put, List.getElem_toArray, List.getElem_cons_zero, List.getElem_cons_succ, List.setIfInBounds_toArray, List.set_cons_zero, List.set_cons_succ])
          refine' wpAnyH_take (i := 13) (v := _) rfl (by kernel_rfl) (by kernel_rfl) (by kernel_rfl) (fun _ _ _ h => h) (Or.inl ⟨by rfl, ?hy11⟩) (by assumption) ?rest11
          case hy11 =>
            intro w h
            (try clear h)
            go_simp
            (try with_reducible rfl)
          (try simp only [Act.put, List.getElem_toArray, List.getElem_cons_zero, List.getElem_cons_succ, List.setIfInBounds_toArray, List.set_cons_zero, List.set_cons_succ])
          refine' wpAnyH_take (i := 14) (v := _) rfl (by kernel_rfl) (by kernel_rfl) (by kernel_rfl) (fun _ _ _ h => h) (Or.inl ⟨by rfl, ?hy12⟩) (by assumption) ?rest12
          case hy12 =>
            intro w h
            have c1 := cellR h CB.out NB.out
            (try clear h)
            go_simp
            (try with_reducible rfl)
          (try simp only [Act.put, List.getElem_toArray, List.getElem_cons_zero, List.getElem_cons_succ, List.setIfInBounds_toArray, List.set_cons_zero, List.set_cons_succ])
          refine' wpAnyH_take (i := 15) (v := _) rfl (by kernel_rfl) (by kernel_rfl) (by kernel_rfl) (fun _ _ _ h => h) (Or.inl ⟨by rfl, ?hy13⟩) (by assumption) ?rest13
          case hy13 =>
            intro w h
            have c1 := HV2.out
            (try clear h)
            go_simp
            (try with_reducible rfl)
          (try simp only [Act.put, List.getElem_toArray, List.getElem_cons_zero, List.getElem_cons_succ, List.setIfInBounds_toArray, List.set_cons_zero, List.set_cons_succ])
          refine' wpAnyH_take (i := 16) (v := _) rfl (by kernel_rfl) (by kernel_rfl) (by kernel_rfl) (fun _ _ _ h => h) (Or.inl ⟨by rfl, ?hy14⟩) (by assumption) ?rest14
          case hy14 =>
            intro w h
            have c1 := HMU.out
            (try clear h)
            go_simp
            (try with_reducible rfl)
          (try simp only [Act.put, List.getElem_toArray, List.getElem_cons_zero, List.getElem_cons_succ, List.setIfInBounds_toArray, List.set_cons_zero, List.set_cons_succ])
          refine wpAnyH_ready (rs := [3]) (by kernel_rfl) (by simp) ?_
          refine AllReadyH.cons rfl (fun K hK => ?_) AllReadyH.nil
          go_simp
          refine (HA.out _).mono ?_
          rintro e w' ⟨rfl, rfl⟩
          refine hK.out _ _ hHeld (fun hHeld => ?_)
          clear hK K
          (try simp only [Act.put, List.getElem_toArray, List.getElem_cons_zero, List.getElem_cons_succ, List.setIfInBounds_toArray, List.set_cons_zero, List.set_cons_succ])
          refine' wpAnyH_take (i := 4) (v := _) rfl (by kernel_rfl) (by kernel_rfl) (by kernel_rfl) (fun _ _ _ h => h) (Or.inl ⟨by rfl, ?hy15⟩) (by assumption) ?rest15
          case hy15 =>
            intro w h
            (try clear h)
            go_simp
            (try with_reducible rfl)
          (try simp only [Act.put, List.getElem_toArray, List.getElem_cons_zero, List.getElem_cons_succ, List.setIfInBounds_toArray, List.set_cons_zero, List.set_cons_succ])
          refine wpAnyH_ready (rs := [5]) (by kernel_rfl) (by simp) ?_
          refine AllReadyH.cons rfl (fun K hK => ?_) AllReadyH.nil
          have c1 := F1_CS.out
          go_simp
          refine hK.out _ _ hHeld (fun hHeld => ?_)
          clear hK K
          (try simp only [Act.put, List.getElem_toArray, List.getElem_cons_zero, List.getElem_cons_succ, List.setIfInBounds_toArray, List.set_cons_zero, List.set_cons_succ])
          refine' wpAnyH_take (i := 17) (v := _) rfl (by kernel_rfl) (by kernel_rfl) (by kernel_rfl) (fun _ _ _ h => h) (Or.inl ⟨by rfl, ?hy16⟩) (by assumption) ?rest16
          case hy16 =>
            intro w h
            have c1 := HAD.out
            (try clear h)
            go_simp
            (try with_reducible rfl)
          (try simp only [Act.put, List.getElem_toArray, List.getElem_cons_zero, List.getElem_cons_succ, List.setIfInBounds_toArray, List.set_cons_zero, List.set_cons_succ])
          refine' wpAnyH_take (i := 18) (v := _) rfl (by kernel_rfl) (by kernel_rfl) (by kernel_rfl) (fun _ _ _ h => h) (Or.inl ⟨by rfl, ?hy17⟩) (by assumption) ?rest17
          case hy17 =>
            intro w h
            (try clear h)
            go_simp
            (try with_reducible rfl)
          (try simp only [Act.put, List.getElem_toArray, List.getElem_cons_zero, List.getElem_cons_succ, List.setIfInBounds_toArray, List.set_cons_zero, List.set_cons_succ])
          refine wpAnyH_ready (rs := [19]) (by kernel_rfl) (by simp) ?_
          refine AllReadyH.cons rfl (fun K hK => ?_) AllReadyH.nil
          have c1 := F1_CS.out
          have f1 := World.ownsRow.frozenAt F1_HR.out P
          have hst := @store_complex Try.prog
          go_simp
          refine hK.out _ _ (grownSet hHeld _ _) (fun hHeld => ?_)
          clear hK K
          (try simp only [Act.put])
          refine wpAnyH_done (by kernel_rfl) ?_ _
          go_wp2_with fail
          go_roundw
          case rel => exact ⟨j + 1, _, by omega, by go_num, RowD.set F1_HR.out P (s1, s2), HNF.out, belows F1_HB.out (Nat.le_refl _) _⟩
          case measure => simp [intOf]; omega
        · obtain rfl : j = n := by omega
          have HB := Lib.hid hbel
          have HR := Lib.hid hrow
          have HF := Lib.hid (show ∀ u, u < j → FK .f64 (E u).1 (sumN (T u) (k + 1)) ∧ FK .f64 (E u).2 (sumN (S u) (k + 1)) from fun u hu => by
            have h := hfk u hu
            rw [if_pos (sbP_lt HSZ.out u k hu hlt), if_pos (sbP_lt HSZ.out u k hu hlt)] at h
            exact h)
          clear hbel hrow hfk
          go_wp2_with fail
          go_roundw
          case rel => exact ⟨k + 1, E, by omega, by go_num, HR.out, HF.out, HB.out⟩
          case measure => simp [intOf]; omega
    · obtain rfl : k = n := by omega
      have HB := Lib.hid hbel
      have HR := Lib.hid hrow
      have HF := Lib.hid hfk
      clear hbel hrow hfk
      go_wp2_with fail
      go_returns
      exact ⟨_, _, rfl, HR.out, HF.out, HB.out⟩
end Go.Proofs.Ytgibdndckoapfab
