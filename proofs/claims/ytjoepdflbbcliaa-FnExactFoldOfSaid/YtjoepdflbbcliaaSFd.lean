/- The model's FoldOf. -/
import Derived.Test.YtjoepdflbbcliaaFdM
import Derived.Test.YtjoepdflbbcliaaRwC
import Derived.Test.YtjoepdflbbcliaaGcd
namespace Go.Proofs.Ytjoepdflbbcliaa
set_option maxRecDepth 100000
open Go.RowKit

set_option maxRecDepth 100000 in
set_option maxHeartbeats 4000000 in
theorem sfoldOf (v : Value) (s : List Int) (r : Int) (w : World) (hv : IS w v s) (hlen : s.length ≤ 1048576) : Calls Try.prog 27 #[v, .int .i64 r] w (MakesRB w (foldA s r) (foldOk s r)) := by
  have HQ := Lib.hid (phIs_any v s w hv hlen)
  have HI := Lib.hid (l1In_any r 1 8)
  have HV := Lib.hid hv
  obtain ⟨pa, cap, rfl⟩ := hv.sl
  have HNO := Lib.hid (fun (h : foldOk s r = false) => show foldA s r = [] by unfold foldA; rw [h]; rfl)
  cases hq : isSeq s with
  | false =>
    have h1 : foldOk s r = false := by unfold foldOk; rw [hq]; rfl
    rw [h1, HNO.out h1]
    rw [hq] at HQ
    clear hv hq h1 HNO HV
    go_enter Try.func27, Try.ntmps27
    go_wp2_with fail
    refine (HQ.out).mono ?_
    rintro e w1 ⟨rfl, hb⟩
    have HB1 := Lib.hid hb
    clear hb
    go_wp2_with fail
    go_returns
    exact ⟨_, rfl, OwnR.nil _ _, HB1.out⟩
  | true =>
  rw [hq] at HQ
  have h32 := isSeq_len hq
  by_cases hl0 : s.length = 0
  · have h1 : foldOk s r = false := by unfold foldOk; rw [decide_eq_false (show ¬ 1 ≤ s.length by omega)]; simp
    rw [h1, HNO.out h1]
    rw [hl0] at HQ ⊢
    clear hv hq h1 HNO HV
    go_enter Try.func27, Try.ntmps27
    go_wp2_with fail
    refine (HQ.out).mono ?_
    rintro e w1 ⟨rfl, hb⟩
    have HB1 := Lib.hid hb
    clear hb
    go_wp2_with fail
    go_returns
    exact ⟨_, rfl, OwnR.nil _ _, HB1.out⟩
  have hne : ((s.length : Int) == 0) = false := beq_eq_false_iff_ne.2 (by omega)
  cases hr : inB r 1 8 with
  | false =>
    have h1 : foldOk s r = false := by unfold foldOk; rw [hr]; simp
    rw [h1, HNO.out h1]
    rw [hr] at HI
    obtain ⟨N, hN⟩ : ∃ N, N = s.length := ⟨_, rfl⟩
    rw [← hN] at HQ hne ⊢
    clear hv hq h1 HNO HV hl0 hN h32 hr hlen
    go_enter Try.func27, Try.ntmps27
    go_wp2_with fail
    refine (HQ.out).mono ?_
    rintro e w1 ⟨rfl, hb⟩
    have HB1 := Lib.hid hb
    clear hb
    go_wp2_with fail
    refine (HI.out _).mono ?_
    rintro e w2 ⟨rfl, rfl⟩
    go_wp2_with fail
    go_returns
    exact ⟨_, rfl, OwnR.nil _ _, HB1.out⟩
  | true =>
  rw [hr] at HI
  have hr2 : 1 ≤ r ∧ r ≤ 8 := by simp [inB] at hr; omega
  obtain ⟨n, rfl⟩ := Int.eq_ofNat_of_zero_le (show 0 ≤ r by omega)
  have hn : 1 ≤ n ∧ n ≤ 8 := by omega
  have hod : foldOk s n = (decide (s.length % n = 0) && (decide (s.length / n ≤ 8) && decide (gcdN n (s.length / n) = 1))) := by
    unfold foldOk
    rw [hq, hr, decide_eq_true (show 1 ≤ s.length by omega)]; rfl
  have had : foldOk s n = true → foldA s n = fdL s n (s.length / n) s.length := fun h => by unfold foldA; rw [h]; rfl
  obtain ⟨q, hqq⟩ : ∃ q, q = foldOk s n := ⟨_, rfl⟩
  rw [← hqq] at hod had ⊢
  have HNO' := Lib.hid (fun h => HNO.out (show foldOk s n = false by rw [← hqq]; exact h))
  obtain ⟨L, hL⟩ : ∃ L, L = foldA s n := ⟨_, rfl⟩
  rw [← hL] at had ⊢
  simp only [← hL] at HNO'
  have HAD := Lib.hid had
  have HSET := Lib.hid (fun t => fdL_set s n (s.length / n) t (by omega))
  have HROW := Lib.hid (fun t i (hi : i < n) => fdL_row s n (s.length / n) t i hi)
  have HFZ := Lib.hid (fdZ_end s n (s.length / n))
  have HLL := Lib.hid (fun t => fdL_length s n (s.length / n) t)
  have HSN := Lib.hid (show ∀ t, t < s.length → t < s.length from fun _ h => h)
  have HMD := Lib.hid (show (s.length : Int).tmod (n : Int) = ((s.length % n : Nat) : Int) from rfl)
  have HMD2 := Lib.hid (show (s.length : Int) % (n : Int) = ((s.length % n : Nat) : Int) from rfl)
  have HDV := Lib.hid (show (s.length : Int) / (n : Int) = ((s.length / n : Nat) : Int) from rfl)
  have hcle : s.length / n ≤ 32 := Nat.le_trans (Nat.div_le_self _ _) h32
  have HGC := Lib.hid (fun w' => show Calls Try.prog 49 #[.int .i64 n, .int .i64 (s.length / n : Nat)] w' (Ret w' (.int .i64 (gcdN n (s.length / n) : Nat))) from crGcd_any n (s.length / n) (by omega) (by omega) w')
  obtain ⟨g, hg⟩ : ∃ g, g = gcdN n (s.length / n) := ⟨_, rfl⟩
  rw [← hg] at hod
  simp only [← hg] at HGC
  obtain ⟨c, hc⟩ : ∃ c, c = s.length / n := ⟨_, rfl⟩
  rw [← hc] at hod had HFZ HDV hcle
  simp only [← hc] at HGC HSET HROW HLL HAD
  obtain ⟨md, hmd⟩ : ∃ c, c = s.length % n := ⟨_, rfl⟩
  rw [← hmd] at hod HMD HMD2
  obtain ⟨N, hN⟩ : ∃ N, N = s.length := ⟨_, rfl⟩
  rw [← hN] at HQ hne HV HMD HMD2 HDV hl0 h32 ⊢
  simp only [← hN] at HAD
  have HSN := Lib.hid (show ∀ t, t < N → t < s.length from fun t h => by rw [← hN]; exact h)
  clear hv hqq hq HNO hN hr hr2 hL had hg hc hmd hlen
  by_cases hm0 : md = 0
  · subst hm0
    rw [decide_eq_true rfl, Bool.true_and] at hod
    by_cases hc8 : c ≤ 8
    · rw [decide_eq_true hc8, Bool.true_and] at hod
      have hc8' : ¬ (8 : Int) < (c : Int) := by omega
      by_cases hg1 : g = 1
      · subst hg1
        rw [decide_eq_true rfl] at hod
        subst hod
        have HLD := Lib.hid (HAD.out rfl)
        have hc1 : 0 < c ∨ c = 0 := by omega
        obtain ⟨i0, hi, hz0, hz1, hz2⟩ := info_parts infoRow
        have HI0 := Lib.hid hi
        have HZ00 := Lib.hid hz0
        have HZ10 := Lib.hid hz1
        have HZ20 := Lib.hid hz2
        clear hi hz0 hz1 hz2
        obtain ⟨i1, hi, hz0, hz1, hz2⟩ := info_parts infoInt
        have HII := Lib.hid hi
        have HZ01 := Lib.hid hz0
        have HZ11 := Lib.hid hz1
        have HZ21 := Lib.hid hz2
        clear hi hz0 hz1 hz2 HAD
        have hmd := HMD.out
        have hmd2 := HMD2.out
        have hdv := HDV.out
        go_enter Try.func27, Try.ntmps27
        go_wp2_with fail
        refine (HQ.out).mono ?_
        rintro e w1 ⟨rfl, hb⟩
        have HB1 := Lib.hid hb
        clear hb
        go_wp2_with fail
        refine (HI.out _).mono ?_
        rintro e w2 ⟨rfl, rfl⟩
        go_wp2_with fail
        refine (HGC.out _).mono ?_
        rintro e w3 ⟨rfl, hb⟩
        have HB3 := Lib.hid (joins HB1.out hb)
        clear hb hmd hmd2 hdv
        go_wp2_with (at_make; refine wpList_make_full _ rfl _ _ 31 rfl w3.heap.size 22 i0 (.slice none 0 0) 1 Try.underlying31 HI0.out HZ00.out HZ10.out _ _ _ _ n rfl rfl rfl rfl ?b2_1 ?b3_1 (Nat.le_refl _) ?_)
        case b2_1 => rw [HZ20.out]; omega
        case b3_1 => unfold maxLen; omega
        intro w4 hown0 hgrow0
        rw [made_rows] at hown0
        have hb : Below w3.heap.size w3 w4 := (Below.refl _ _).grown hgrow0 (Nat.le_refl _) (fun k h => by cases h)
        have BB0 := Lib.hid (joins HB3.out hb)
        have OO0 := Lib.hid (OwnR.made hown0)
        rw [fdZ_start n c] at OO0
        have LO := Lib.hid (show w.heap.size ≤ w3.heap.size from HB3.out.size)
        clear hown0 hgrow0 hb
        obtain ⟨go, hgo⟩ : ∃ g, g = w3.heap.size := ⟨_, rfl⟩
        rw [← hgo] at OO0 LO ⊢
        clear hgo
        go_wp2_with fail
        go_loopw [48] (fun q wr => ∃ a : Nat, a ≤ n ∧ q = .int .i64 a ∧ OwnR wr go (.slice (some ⟨go, 0, none⟩) n n) (fdZ n c a) ∧ Below w.heap.size w wr) (fun q _ => n - (intOf q).toNat)
        case atStart => exact ⟨0, Nat.zero_le _, rfl, OO0.out, BB0.out⟩
        case round =>
          obtain ⟨a, ha, rfl, ho, hbel⟩ := hrel
          obtain ⟨wo, hwo⟩ : ∃ wo, wo = wr := ⟨_, rfl⟩
          rw [← hwo] at ho hbel ⊢
          clear hwo
          have RO := Lib.hid ho
          have BR := Lib.hid hbel
          clear ho hbel
          by_cases hlt : a < n
          · have h0 : (0 : Int) ≤ (a : Int) := by omega
            have h1 : (a : Int) < (n : Int) := by omega
            go_wp2_with (at_make; refine wpList_make_full _ rfl _ _ 22 rfl wo.heap.size 3 i1 (.int .i64 0) 1 Try.underlying22 HII.out HZ01.out HZ11.out _ _ _ _ c rfl rfl rfl rfl ?b2_2 ?b3_2 (Nat.le_refl _) ?_)
            case b2_2 => rw [HZ21.out]; omega
            case b3_2 => unfold maxLen; omega
            intro w5 hown0 hgrow0
            rw [made_zeros] at hown0
            have hb : Below wo.heap.size wo w5 := (Below.refl _ _).grown hgrow0 (Nat.le_refl _) (fun k h => by cases h)
            have RO5 := Lib.hid (RO.out.below hb)
            have B5 := Lib.hid (joins BR.out hb)
            have hst := RO.out.stored (i := a) (by rw [fdZ_length]) hb (Nat.le_of_lt (RO.out.lt _ rfl).2) (r := .slice (some ⟨wo.heap.size, 0, none⟩) c c) (l := List.replicate c 0) (by unfold Own; rw [List.length_replicate]; exact hown0) (by rw [fdZ_length]; exact hlt)
            rw [fdZ_step] at hst
            obtain ⟨u0, cu, fu, -⟩ := RO5.out.cellAt (by rw [fdZ_length]) a (by rw [fdZ_length]; exact hlt)
            have S5 := Lib.hid hst
            have B6 := Lib.hid (B5.out.setCell (p := ⟨go, a, none⟩) LO.out (.slice (some ⟨wo.heap.size, 0, none⟩) c c))
            clear hown0 hgrow0 hb hst
            go_wp2_with fail
            go_roundw
            case rel => exact ⟨a + 1, by omega, by go_num, S5.out, B6.out⟩
            case measure => simp [intOf]; omega
          · have hle : (n : Int) ≤ (a : Int) := by omega
            have hRO := RO.out
            rw [show a = n by omega, HFZ.out] at hRO
            have RO0 := Lib.hid hRO
            clear hRO
            go_wp2_with fail
            go_loopw [59] (fun q wr => ∃ t : Nat, t ≤ N ∧ q = .int .i64 t ∧ OwnR wr go (.slice (some ⟨go, 0, none⟩) n n) (fdL s n c t) ∧ Below w.heap.size w wr) (fun q _ => N - (intOf q).toNat)
            case atStart => exact ⟨0, Nat.zero_le _, rfl, RO0.out, BR.out⟩
            case round =>
              obtain ⟨t, ht, rfl, ho, hbel⟩ := hrel
              have RT := Lib.hid ho
              have BT := Lib.hid hbel
              clear ho hbel
              by_cases hlt2 : t < N
              · have h0 : (0 : Int) ≤ (t : Int) := by omega
                have h1 : (t : Int) < (N : Int) := by omega
                have hcp : 0 < c := by
                  rcases hc1 with h | h
                  · exact h
                  · exfalso
                    subst h
                    have := HDV.out
                    have e := Int.emod_add_mul_ediv (N : Int) (n : Int)
                    rw [HMD2.out, HDV.out] at e
                    simp at e
                    omega
                rcases HV.out.below BT.out with ⟨h0', _⟩ | ⟨_, b, off, cap', hveq, _, hcc⟩
                · have := HSN.out t hlt2; rw [h0'] at this; exact absurd this (Nat.not_lt_zero _)
                simp only [Value.slice.injEq] at hveq
                obtain ⟨rfl, hnn, rfl⟩ := hveq
                clear hnn
                have cx := hcc t (HSN.out t hlt2)
                have hPn : t % n < n := Nat.mod_lt _ (by omega)
                have hQc : t % c < c := Nat.mod_lt _ hcp
                have hrow := HROW.out t (t % n) hPn
                obtain ⟨k, c', d1, d2, d3, hBk, hkw, hset⟩ := RT.out.cellSet (by rw [HLL.out]) (t % n) (by rw [HLL.out]; exact hPn) (t % c) (by rw [hrow, gen_length]; exact hQc)
                have hs2 := hset (s.getD t 0)
                rw [hrow, HSET.out] at hs2
                rw [hrow, gen_length] at d1
                obtain ⟨x, hx⟩ : ∃ x, x = s.getD t 0 := ⟨_, rfl⟩
                rw [← hx] at cx hs2
                have HS2 := Lib.hid hs2
                have LK := Lib.hid (show w.heap.size ≤ k from Nat.le_trans LO.out hBk)
                have hp0 : (0 : Int) ≤ (t : Int) % (n : Int) := Int.emod_nonneg _ (by omega)
                have hp1 : (t : Int) % (n : Int) < (n : Int) := Int.emod_lt_of_pos _ (by omega)
                have hq0 : (0 : Int) ≤ (t : Int) % (c : Int) := Int.emod_nonneg _ (by omega)
                have hq1 : (t : Int) % (c : Int) < (c : Int) := Int.emod_lt_of_pos _ (by omega)
                have hce : ¬ c = 0 := by omega
                clear hcc hset hs2 hx hrow hBk hkw
                go_wp2_with fail
                go_roundw
                case rel => exact ⟨t + 1, by omega, by go_num, HS2.out, belows BT.out LK.out _⟩
                case measure => simp [intOf]; omega
              · obtain rfl : t = N := by omega
                go_wp2_with fail
                go_returns
                refine ⟨_, rfl, ?_, BT.out⟩
                rw [HLD.out]
                exact RT.out.mono LO.out
      · rw [decide_eq_false hg1] at hod
        subst hod
        have hmd := HMD.out
        have hmd2 := HMD2.out
        have hdv := HDV.out
        have hg1' : ((g : Int) != 1) = true := by simp; omega
        have HE := Lib.hid (HNO'.out rfl)
        go_enter Try.func27, Try.ntmps27
        go_wp2_with fail
        refine (HQ.out).mono ?_
        rintro e w1 ⟨rfl, hb⟩
        have HB1 := Lib.hid hb
        clear hb
        go_wp2_with fail
        refine (HI.out _).mono ?_
        rintro e w2 ⟨rfl, rfl⟩
        go_wp2_with fail
        refine (HGC.out _).mono ?_
        rintro e w3 ⟨rfl, hb⟩
        have HB1 := Lib.hid (joins HB1.out hb)
        clear hb
        go_wp2_with fail
        go_returns
        refine ⟨_, rfl, ?_, HB1.out⟩
        rw [HE.out]
        exact OwnR.nil _ _
    · rw [decide_eq_false hc8, Bool.false_and] at hod
      subst hod
      have hmd := HMD.out
      have hmd2 := HMD2.out
      have hdv := HDV.out
      have hc8' : (8 : Int) < (c : Int) := by omega
      have HE := Lib.hid (HNO'.out rfl)
      go_enter Try.func27, Try.ntmps27
      go_wp2_with fail
      refine (HQ.out).mono ?_
      rintro e w1 ⟨rfl, hb⟩
      have HB1 := Lib.hid hb
      clear hb
      go_wp2_with fail
      refine (HI.out _).mono ?_
      rintro e w2 ⟨rfl, rfl⟩
      go_wp2_with fail
      go_returns
      refine ⟨_, rfl, ?_, HB1.out⟩
      rw [HE.out]
      exact OwnR.nil _ _
  · rw [decide_eq_false hm0, Bool.false_and] at hod
    subst hod
    have hmd := HMD.out
    have hmd2 := HMD2.out
    have hdv := HDV.out
    have hm0' : ((md : Int) != 0) = true := by simp; omega
    have HE := Lib.hid (HNO'.out rfl)
    go_enter Try.func27, Try.ntmps27
    go_wp2_with fail
    refine (HQ.out).mono ?_
    rintro e w1 ⟨rfl, hb⟩
    have HB1 := Lib.hid hb
    clear hb
    go_wp2_with fail
    refine (HI.out _).mono ?_
    rintro e w2 ⟨rfl, rfl⟩
    go_wp2_with fail
    go_returns
    refine ⟨_, rfl, ?_, HB1.out⟩
    rw [HE.out]
    exact OwnR.nil _ _
end Go.Proofs.Ytjoepdflbbcliaa
