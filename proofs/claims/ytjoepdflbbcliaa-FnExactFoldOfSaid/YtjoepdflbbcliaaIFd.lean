/- The program's FoldOf. -/
import Derived.Test.YtjoepdflbbcliaaIGu
import Derived.Test.YtjoepdflbbcliaaIGl
import Derived.Test.YtjoepdflbbcliaaFdM
import Derived.StillTailTactics
namespace Go.Proofs.Ytjoepdflbbcliaa
set_option maxRecDepth 100000
open Go.RowKit

set_option maxHeartbeats 1000000 in
theorem isFolded_no (n m : Int) (h : inB n 1 8 = false) (w : World) : Calls Try.prog 51 #[.int .i64 n, .int .i64 m] w (Ret w (.bool false)) := by
  have H1 := Lib.hid (isSideI_any n)
  rw [h] at H1
  clear h
  go_enter Try.func51, Try.ntmps51
  go_wp2_with fail
  refine (H1.out _).mono ?_
  rintro e w1 ⟨rfl, rfl⟩
  go_wp2_with fail
  go_returns
  exact ⟨rfl, Below.refl _ _⟩
theorem fold_fd (s : List Int) (n : Nat) (hq : isSeq s = true) (_ : 1 ≤ n) (hmd : s.length % n = 0) : foldOk s n = fdOk n (s.length / n) := by
  have hdm := Nat.div_add_mod s.length n
  unfold foldOk fdOk
  rw [hq, Bool.true_and, inB_side, show ((n : Nat) : Int).toNat = n from rfl, decide_eq_true hmd, Bool.true_and]
  cases hs : sideB n with
  | false => simp
  | true =>
    by_cases h0 : s.length = 0
    · rw [decide_eq_false (by omega), h0, Nat.zero_div]; rfl
    · have hc : 1 ≤ s.length / n := by
        rcases Nat.eq_zero_or_pos (s.length / n) with e | e
        · rw [e] at hdm; simp at hdm; omega
        · exact e
      rw [decide_eq_true (by omega), Bool.true_and, Bool.true_and, Bool.true_and]
      unfold sideB
      by_cases h8 : s.length / n ≤ 8
      · rw [decide_eq_true h8, decide_eq_true (show 1 ≤ s.length / n ∧ s.length / n ≤ 8 from ⟨hc, h8⟩)]
      · rw [decide_eq_false h8, decide_eq_false (p := 1 ≤ s.length / n ∧ s.length / n ≤ 8) (fun h => h8 h.2)]
theorem GV_fd (s : List Int) (n c t : Nat) (hn : 0 < n) (hc : 0 < c) (h8 : c ≤ 8) : upV (GV n c (fdC s n c t)) ((t % n) * 8 + t % c) (s.getD t 0) = GV n c (fdC s n c (t + 1)) := by
  have h1 : t % n < n := Nat.mod_lt _ hn
  have h2 : t % c < c := Nat.mod_lt _ hc
  funext d
  unfold upV GV
  show _ = if d / 8 < n ∧ d % 8 < c then (if d / 8 = t % n ∧ d % 8 = t % c then s.getD t 0 else fdC s n c t (d / 8) (d % 8)) else 0
  by_cases e : d = t % n * 8 + t % c
  · rw [if_pos e, if_pos (by omega), if_pos (by omega)]
  · rw [if_neg e]
    by_cases h : d / 8 < n ∧ d % 8 < c
    · rw [if_pos h, if_pos h, if_neg (by omega)]
    · rw [if_neg h, if_neg h]
set_option maxRecDepth 100000 in
set_option maxHeartbeats 4000000 in
theorem ifoldOf (v : Value) (s : List Int) (r : Int) (w : World) (hv : IS w v s) (hlen : s.length ≤ 1048576) : Calls Try.prog 28 #[v, .int .i64 r] w (MakesRB w (foldA s r) (foldOk s r)) := by
  have HQ := Lib.hid (isSequence_any v s w hv hlen)
  have HV := Lib.hid hv
  obtain ⟨pa, cap, rfl⟩ := hv.sl
  have HNO := Lib.hid (fun (h : foldOk s r = false) => show foldA s r = [] by unfold foldA; rw [h]; rfl)
  cases hq : isSeq s with
  | false =>
    have h1 : foldOk s r = false := by unfold foldOk; rw [hq]; rfl
    rw [h1, HNO.out h1]
    rw [hq] at HQ
    clear hv hq h1 HNO HV
    go_enter Try.func28, Try.ntmps28
    go_wp2_with fail
    refine (HQ.out).mono ?_
    rintro e w1 ⟨rfl, hb⟩
    have HB1 := Lib.hid hb
    clear hb
    go_wp2_with fail
    go_returns
    exact ⟨_, rfl, OwnR.nil _ _, HB1.out⟩
  | true =>
  rw [hq] at HQ
  have h32 := isSeq_len hq
  by_cases hr1 : r < 1
  · have h1 : foldOk s r = false := by unfold foldOk; rw [show inB r 1 8 = false by unfold inB; rw [decide_eq_false (by omega)]; rfl]; simp
    rw [h1, HNO.out h1]
    clear hv hq h1 HNO HV
    go_enter Try.func28, Try.ntmps28
    go_wp2_with fail
    refine (HQ.out).mono ?_
    rintro e w1 ⟨rfl, hb⟩
    have HB1 := Lib.hid hb
    clear hb
    go_wp2_with fail
    go_returns
    exact ⟨_, rfl, OwnR.nil _ _, HB1.out⟩
  obtain ⟨n, rfl⟩ := Int.eq_ofNat_of_zero_le (show 0 ≤ r by omega)
  have hn : 1 ≤ n := by omega
  have hn0 : ¬ n = 0 := by omega
  have hn1 : ¬ (n : Int) < 1 := by omega
  have HMD := Lib.hid (show (s.length : Int).tmod (n : Int) = ((s.length % n : Nat) : Int) from rfl)
  have HMD2 := Lib.hid (show (s.length : Int) % (n : Int) = ((s.length % n : Nat) : Int) from rfl)
  have HDV := Lib.hid (show (s.length : Int) / (n : Int) = ((s.length / n : Nat) : Int) from rfl)
  have HDM := Lib.hid (Nat.div_add_mod s.length n)
  have hcle : s.length / n ≤ 32 := Nat.le_trans (Nat.div_le_self _ _) h32
  by_cases hmd : s.length % n = 0
  rotate_left 1
  · have h1 : foldOk s n = false := by unfold foldOk; rw [show ((n : Nat) : Int).toNat = n from rfl, decide_eq_false hmd]; simp
    rw [h1, HNO.out h1]
    obtain ⟨md, hmdd⟩ : ∃ md, md = s.length % n := ⟨_, rfl⟩
    rw [← hmdd] at HMD HMD2 hmd
    have hm0' : ((md : Int) != 0) = true := by simp; omega
    have hmd1 := HMD.out
    have hmd2 := HMD2.out
    clear hv hq h1 HNO HV hmdd hr1 HDV HDM
    go_enter Try.func28, Try.ntmps28
    go_wp2_with fail
    refine (HQ.out).mono ?_
    rintro e w1 ⟨rfl, hb⟩
    have HB1 := Lib.hid hb
    clear hb
    go_wp2_with fail
    go_returns
    exact ⟨_, rfl, OwnR.nil _ _, HB1.out⟩
  have hff := fold_fd s n hq hn hmd
  rw [hmd] at HMD HMD2
  have HFO := Lib.hid (fun w' => show Calls Try.prog 51 #[.int .i64 n, .int .i64 (s.length / n : Nat)] w' (Ret w' (.bool (fdOk n (s.length / n)))) by
    by_cases h8 : n ≤ 8
    · exact isFolded_any n (s.length / n) (by omega) (by omega) w'
    · have h := isFolded_no (n : Int) (s.length / n : Nat) (by unfold inB; rw [decide_eq_false (show ¬ (n : Int) ≤ 8 by omega)]; simp) w'
      rw [show fdOk n (s.length / n) = false by unfold fdOk sideB; rw [decide_eq_false (p := 1 ≤ n ∧ n ≤ 8) (fun h => h8 h.2)]; rfl]
      exact h)
  have HAD := Lib.hid (fun (h : foldOk s n = true) => show foldA s n = genR n (fun i => gen (s.length / n) (fdC s n (s.length / n) s.length i)) by unfold foldA; rw [h]; rfl)
  have HPOS : foldOk s n = true → n ≤ 8 ∧ 0 < s.length / n ∧ s.length / n ≤ 8 := fun h => by
    rw [hff] at h
    unfold fdOk at h
    rw [Bool.and_eq_true, Bool.and_eq_true] at h
    have := sideB_in h.1
    have := sideB_in h.2.1
    omega
  have HSET := Lib.hid (fun t (hc : 0 < s.length / n) (h8 : s.length / n ≤ 8) => GV_fd s n (s.length / n) t (by omega) hc h8)
  obtain ⟨L, hL⟩ : ∃ L, L = foldA s n := ⟨_, rfl⟩
  simp only [← hL] at HNO HAD
  rw [← hL]
  obtain ⟨q, hqq⟩ : ∃ q, q = foldOk s n := ⟨_, rfl⟩
  rw [← hqq] at hff HPOS ⊢
  simp only [← hqq] at HNO HAD
  rw [← hff] at HFO
  obtain ⟨c, hc⟩ : ∃ c, c = s.length / n := ⟨_, rfl⟩
  rw [← hc] at HDV hcle HPOS
  simp only [← hc] at HFO HAD HSET
  have HCD := Lib.hid hc
  have HLS := Lib.hid (fun (h : n ≤ 8) (h2 : 0 < c) (h3 : c ≤ 8) w' => show Calls Try.prog 52 #[.agg (grA (GV n c (fdC s n c s.length)) n c)] w' (MakesRB w' (genR n (fun i => gen c (fdC s n c s.length i))) true) by
    have h := grLists_any n c (fdC s n c s.length) h (fun _ => ⟨h2, h3⟩) w'
    rwa [decide_eq_true hn] at h)
  have HG0 := Lib.hid (show G0 = GV n c (fdC s n c 0) by funext d; unfold GV fdC G0; split <;> rfl)
  obtain ⟨N, hN⟩ : ∃ N, N = s.length := ⟨_, rfl⟩
  rw [← hN] at HQ HV HMD HMD2 HDV h32 ⊢
  simp only [← hN] at HAD HLS
  have HSN := Lib.hid (show ∀ t, t < N → t < s.length from fun t h => by rw [← hN]; exact h)
  have HPH := Lib.hid (fun i hi => allIn_getD (isSeq_all hq) i hi)
  have ZZ := Lib.hid zeroGr
  have HBU := Lib.hid (builtGr n c)
  have HP := Lib.hid HPOS
  have hmd1 := HMD.out
  have hmd2 := HMD2.out
  have hdv := HDV.out
  clear hv hq hL hqq hff hN hmd hr1 HDM hc HPOS
  go_enter Try.func28, Try.ntmps28
  go_wp2_with fail
  refine (HQ.out).mono ?_
  rintro e w1 ⟨rfl, hb⟩
  have B1 := Lib.hid hb
  clear hb
  go_wp2_with (first
    | ((with_reducible refine at_op (Op.build 66 #[(1, .tmp 23), (2, .tmp 27)]) ?_); refine wpList_build_row rfl 66 [(1, .tmp 23), (2, .tmp 27)] rfl (grA G0 n c) HBU.out ?_)
    | ((with_reducible refine at_op (d := some 6) (Op.alloc 66) ?_); refine wpList_alloc_row rfl 66 rfl (grA G0 0 0) (fun w => ZZ.out w) ?_; intro w2 hr hb hz; have R2 := Lib.hid hr; have B2 := Lib.hid (joins B1.out hb); have L2 := Lib.hid (show w.heap.size ≤ w1.heap.size from B1.out.size); clear hr hb hz)
    | ((with_reducible refine at_op (Op.store 66 (.tmp 6) (.tmp 28)) ?_); refine wpList_put_row rfl 66 (.tmp 6) (.tmp 28) rfl (w1.heap.size) (grA G0 n c) rfl rfl 66 (grA G0 0 0) R2.out 66 infoGr (grA_size _ _ _) (grA_size _ _ _) (grA_one _ _ _) w.heap.size w B2.out L2.out ?_; intro w3 hr hs hb; have R3 := Lib.hid hr; have B3 := Lib.hid hb; have c0 := rowC R3.out (grA_rows G0 n c); have c1 := rowC R3.out (grA_cols G0 n c); clear hr hs hb))
  clear c0 c1
  refine (HFO.out _).mono ?_
  rintro e w4 ⟨rfl, hb⟩
  have R4 := Lib.hid (rowB R3.out hb)
  have B4 := Lib.hid (joins B3.out hb)
  clear hb hmd1 hmd2 hdv
  cases q with
  | false =>
    have HE := Lib.hid (HNO.out rfl)
    go_wp2_with fail
    go_returns
    refine ⟨_, rfl, ?_, B4.out⟩
    rw [HE.out]
    exact OwnR.nil _ _
  | true =>
    have HLD := Lib.hid (HAD.out rfl)
    obtain ⟨hn8, hc0, hc8⟩ := HP.out rfl
    have LG := Lib.hid L2.out
    obtain ⟨g, hg⟩ : ∃ g, g = w1.heap.size := ⟨_, rfl⟩
    rw [← hg] at R4 LG ⊢
    rw [HG0.out] at R4
    clear R2 R3 B1 B2 B3 L2 hg
    go_wp2_with fail
    go_loopw [37] (fun q wr => ∃ t : Nat, t ≤ N ∧ q = .int .i64 t ∧ wr.heap[g]? = some (.cells (grA (GV n c (fdC s n c t)) n c) 66 (0, 0)) ∧ Below w.heap.size w wr) (fun q _ => N - (intOf q).toNat)
    case atStart => exact ⟨0, Nat.zero_le _, rfl, R4.out, B4.out⟩
    case round =>
      obtain ⟨t, ht, rfl, hr, hbel⟩ := hrel
      obtain ⟨wx, hwx⟩ : ∃ wo, wo = wr := ⟨_, rfl⟩
      rw [← hwx] at hr hbel ⊢
      clear hwx
      have RG := Lib.hid hr
      have BR := Lib.hid hbel
      clear hr hbel
      by_cases hlt : t < N
      · have h0 : (0 : Int) ≤ (t : Int) := by omega
        have h1 : (t : Int) < (N : Int) := by omega
        rcases HV.out.below BR.out with ⟨h0', _⟩ | ⟨_, b, off, cap', hveq, _, hcc⟩
        · have := HSN.out t hlt; rw [h0'] at this; exact absurd this (Nat.not_lt_zero _)
        simp only [Value.slice.injEq] at hveq
        obtain ⟨rfl, hnn, rfl⟩ := hveq
        clear hnn
        have cx := hcc t (HSN.out t hlt)
        obtain ⟨P, hP⟩ : ∃ P, P = t % n := ⟨_, rfl⟩
        obtain ⟨Q, hQ⟩ : ∃ P, P = t % c := ⟨_, rfl⟩
        have hPn : P < n := by rw [hP]; exact Nat.mod_lt _ (by omega)
        have hQc : Q < c := by rw [hQ]; exact Nat.mod_lt _ (by omega)
        have hset := HSET.out t hc0 hc8
        have e1 : (t : Int).tmod (n : Int) = (P : Int) := by rw [hP]; rfl
        have e2 : (t : Int).tmod (c : Int) = (Q : Int) := by rw [hQ]; rfl
        rw [← hP, ← hQ] at hset
        obtain ⟨x, hx⟩ : ∃ x, x = s.getD t 0 := ⟨_, rfl⟩
        rw [← hx] at cx hset
        obtain ⟨V, hV⟩ : ∃ V, V = GV n c (fdC s n c t) := ⟨_, rfl⟩
        rw [← hV] at hset RG
        have hs2 := heap_setCell_same wx g (P * 8 + Q) _ _ (.int .i64 x) RG.out
        rw [grA_set V n c (P * 8 + Q) (by omega) x, hset] at hs2
        have HS2 := Lib.hid hs2
        have c0 := rowC RG.out (grA_rows V n c)
        have c1 := rowC RG.out (grA_cols V n c)
        have c2 := rowC RG.out (grA_get V n c (P * 8 + Q) (by omega))
        have f2 := rowFree (i := P * 8 + Q) RG.out
        have hp0 : (0 : Int) ≤ (P : Int) := by omega
        have hp1 : (P : Int) < 8 := by omega
        have hq0 : (0 : Int) ≤ (Q : Int) := by omega
        have hq1 : (Q : Int) < 8 := by omega
        have hce : ¬ c = 0 := by omega
        clear hcc hset hs2 hx hP hQ hV
        go_wp2_with fail
        go_still_tail 12, (by kernel_rfl)
        change wpList _ _ _ _ _ wx.drew
        go_wp2_with fail
        go_roundw
        case rel => exact ⟨t + 1, by omega, by go_num, HS2.out, belowN (belows BR.out LG.out _) 1⟩
        case measure => simp [intOf]; omega
      · obtain rfl : t = N := by omega
        have HL2 := Lib.hid (HLS.out hn8 hc0 hc8)
        have IC := Lib.hid (infoGrA (GV n c (fdC s n c t)) n c)
        obtain ⟨C, hC⟩ : ∃ C, C = grA (GV n c (fdC s n c t)) n c := ⟨_, rfl⟩
        rw [← hC] at HL2 IC RG
        clear hC
        go_wp2_with ((with_reducible refine at_op (Op.load 66 (.tmp 6)) ?_); refine wpList_load_part rfl 66 (.tmp 6) rfl g 0 rfl C C 66 (0, 0) _ RG.out (Part.self _) Try.underlying66 rfl IC.out ?_)
        refine (HL2.out _).mono ?_
        rintro e w7 ⟨v7, rfl, ho, hb⟩
        have HO := Lib.hid (ho.mono BR.out.size)
        have B7 := Lib.hid (joins BR.out hb)
        clear ho hb
        go_wp2_with fail
        go_returns
        refine ⟨_, rfl, ?_, B7.out⟩
        rw [HLD.out]
        exact HO.out
end Go.Proofs.Ytjoepdflbbcliaa
