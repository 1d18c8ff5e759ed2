/- The model's DelayedOf. -/
import Derived.Test.YtapmehgdnofgnabSp
import Derived.Test.YtapmehgdnofgnabSSpM
import Derived.Test.YtapmehgdnofgnabMdP
import Derived.Test.YtapmehgdnofgnabQin
namespace Go.Proofs.Ytapmehgdnofgnab
set_option maxRecDepth 100000
open Go.RowKit

/-- x times the values of a code from an index on, as far as k of them, in n numbers. -/
def dlX (a b : Int) (s : List Int) (d k i : Nat) : Int := if d ≤ i ∧ i < d + k then tvX a b s (i - d) else 0
def dlY (a b : Int) (s : List Int) (d k i : Nat) : Int := if d ≤ i ∧ i < d + k then tvY a b s (i - d) else 0
def dlL (a b : Int) (s : List Int) (d n k : Nat) : List (Int × Int) := genG n (dlX a b s d k) (dlY a b s d k)
theorem dlL_length (a b : Int) (s : List Int) (d n k : Nat) : (dlL a b s d n k).length = n := genG_length _ _ _
def dyB (s : List Int) (a b d n : Int) : Bool := cdOk s && good a b && inB n 1 64 && inB d 0 (n - 1)
def dyF (s : List Int) (a b d n : Int) : List (Int × Int) := if dyB s a b d n then dlL a b s d.toNat n.toNat s.length else []
theorem dyF_length (s : List Int) (a b d n : Int) : (dyF s a b d n).length ≤ 1048576 := by
  unfold dyF
  by_cases h : dyB s a b d n = true
  · rw [if_pos h, dlL_length]
    unfold dyB inB at h
    simp only [Bool.and_eq_true, decide_eq_true_eq] at h
    omega
  · rw [if_neg h]; simp
theorem dlL_zero (a b : Int) (s : List Int) (d n : Nat) : dlL a b s d n 0 = upG n 0 (fun _ => 0) (fun _ => 0) := by
  unfold dlL upG
  exact genG_ext (fun i _ => by unfold dlX; rw [if_neg (by omega), if_neg (by omega)]) (fun i _ => by unfold dlY; rw [if_neg (by omega), if_neg (by omega)])
theorem dlL_over (a b : Int) (s : List Int) (d n k : Nat) (h : ¬ d + k < n) : dlL a b s d n (k + 1) = dlL a b s d n k := by
  unfold dlL
  refine genG_ext (fun i hi => ?_) (fun i hi => ?_)
  · unfold dlX
    by_cases h1 : d ≤ i
    · rw [if_pos ⟨h1, by omega⟩, if_pos ⟨h1, by omega⟩]
    · rw [if_neg (fun e => h1 e.1), if_neg (fun e => h1 e.1)]
  · unfold dlY
    by_cases h1 : d ≤ i
    · rw [if_pos ⟨h1, by omega⟩, if_pos ⟨h1, by omega⟩]
    · rw [if_neg (fun e => h1 e.1), if_neg (fun e => h1 e.1)]
theorem dlL_set (a b : Int) (s : List Int) (d n k : Nat) (h : d + k < n) : (dlL a b s d n k).set (d + k) (tvX a b s k, tvY a b s k) = dlL a b s d n (k + 1) := by
  apply List.ext_getElem?
  intro i
  by_cases hi : i < n
  · by_cases e : i = d + k
    · subst e
      rw [List.getElem?_set_self (by rw [dlL_length]; exact h)]
      unfold dlL genG
      simp [h, dlX, dlY, Nat.add_sub_cancel_left]
    · rw [List.getElem?_set_ne (fun x => e x.symm)]
      unfold dlL genG
      simp only [List.getElem?_map, List.getElem?_range hi, Option.map_some, Option.some.injEq, Prod.mk.injEq]
      unfold dlX dlY
      by_cases h1 : d ≤ i ∧ i < d + k
      · rw [if_pos h1, if_pos h1, if_pos ⟨h1.1, by omega⟩, if_pos ⟨h1.1, by omega⟩]; exact ⟨rfl, rfl⟩
      · rw [if_neg h1, if_neg h1, if_neg (by omega), if_neg (by omega)]; exact ⟨rfl, rfl⟩
  · rw [List.getElem?_eq_none (by rw [List.length_set, dlL_length]; omega), List.getElem?_eq_none (by rw [dlL_length]; omega)]
theorem dlL_at (a b : Int) (s : List Int) (d n k : Nat) (h : d + k < n) : gre (dlL a b s d n k) (d + k) = 0 ∧ gim (dlL a b s d n k) (d + k) = 0 := by
  unfold dlL
  rw [genG_re _ _ _ _ h, genG_im _ _ _ _ h]
  unfold dlX dlY
  rw [if_neg (by omega), if_neg (by omega)]
  exact ⟨rfl, rfl⟩

theorem cell_two {w : World} {g h q : Nat} {u : Value} (hn : g ≠ h) (o p : Nat) (x y : Value) (hc : w.cell? ⟨h, q, none⟩ = some u) : ((w.setCell ⟨g, o, none⟩ x).setCell ⟨g, p, none⟩ y).cell? ⟨h, q, none⟩ = some u :=
  (World.cell?_setCell_other _ _ _ _ (fun e => hn (congrArg Addr.block e))).trans ((World.cell?_setCell_other _ _ _ _ (fun e => hn (congrArg Addr.block e))).trans hc)
set_option maxHeartbeats 1000000 in
theorem phGood8 (x y : Int) (w : World) : Calls Try.prog 55 #[.agg #[.int .i64 x, .int .i64 y]] w (Ret w (.bool (good x y))) := by
  go_enter Try.func55, Try.ntmps55
  go_wp2
  all_goals
    go_ret
    exact ⟨ret_bool (by simp only [good]; simp; first | omega | simp_all), by go_grown⟩
set_option maxRecDepth 100000 in
set_option maxHeartbeats 4000000 in
theorem sDelayedOf (v : Value) (s : List Int) (a b d0 n0 : Int) (w : World) (hv : IS w v s) (hls : s.length ≤ 1048576) :
    Calls Try.prog 25 #[v, .agg #[.int .i64 a, .int .i64 b], .int .i64 d0, .int .i64 n0] w (MakesGB w (dyF s a b d0 n0) (dyB s a b d0 n0)) := by
  obtain ⟨i0, hi, hz0, hz1, hz2⟩ := info_parts infoG
  have hdef : dyB s a b d0 n0 = (cdOk s && good a b && inB n0 1 64 && inB d0 0 (n0 - 1)) := rfl
  have hfin : dyB s a b d0 n0 = false → dyF s a b d0 n0 = [] := fun h => by unfold dyF; rw [h]; rfl
  have hyes : dyB s a b d0 n0 = true → dyF s a b d0 n0 = dlL a b s d0.toNat n0.toNat s.length := fun h => by unfold dyF; rw [h]; rfl
  obtain ⟨wb, hwb⟩ : ∃ w', w' = w.alloc (.cells #[.int .i64 a, .int .i64 b] 26) := ⟨_, rfl⟩
  have hbb : Below w.heap.size w wb := by rw [hwb]; exact belowa (Below.refl _ _) _
  have C1 := Lib.hid (show wb.cell? ⟨w.heap.size, 0, none⟩ = some (.int .i64 a) by rw [hwb]; exact cell_new0 _ _ _ _)
  have C2 := Lib.hid (show wb.cell? ⟨w.heap.size, 1, none⟩ = some (.int .i64 b) by rw [hwb]; exact cell_new1 _ _ _ _)
  have HSB := Lib.hid (show wb.heap.size = w.heap.size + 1 by rw [hwb]; simp)
  have HB := Lib.hid hbb
  have HV := Lib.hid (hv.below hbb)
  have HCO := Lib.hid (sdCode_any v s wb HV.out hls)
  have HPG := Lib.hid (phGood8 a b)
  have HI1 := Lib.hid (fun w1 => l1In_any n0 1 64 w1)
  have HI2 := Lib.hid (fun w1 => l1In_any d0 0 (n0 - 1) w1)
  have HVW := Lib.hid hv
  obtain ⟨ps, cs, rfl⟩ := hv.slice
  cases h1 : cdOk s with
  | false =>
    have hb := show dyB s a b d0 n0 = false by rw [hdef, h1]; rfl
    rw [hb, hfin hb]
    rw [h1] at HCO
    clear hdef hfin hyes hb h1 hv hbb
    go_enter Try.func25, Try.ntmps25
    go_wp2_with fail
    rw [← hwb]
    clear hwb
    refine (HCO.out).mono ?_
    rintro e w1 ⟨rfl, hb1⟩
    have HB1 := Lib.hid (joins HB.out hb1)
    clear hb1
    go_wp2_with fail
    go_returns
    exact ⟨_, rfl, OwnG.nil _ _, HB1.out⟩
  | true =>
  rw [h1] at HCO
  cases h2 : good a b with
  | false =>
    have hb := show dyB s a b d0 n0 = false by rw [hdef, h2, Bool.and_false]; rfl
    rw [hb, hfin hb]
    rw [h2] at HPG
    clear hdef hfin hyes hb h1 h2 hv hbb
    go_enter Try.func25, Try.ntmps25
    go_wp2_with fail
    rw [← hwb]
    clear hwb
    refine (HCO.out).mono ?_
    rintro e w1 ⟨rfl, hb1⟩
    have HB1 := Lib.hid (joins HB.out hb1)
    have c1 := keepc hb1 C1.out
    have c2 := keepc hb1 C2.out
    clear hb1
    go_wp2_with fail
    refine (HPG.out _).mono ?_
    rintro e w2 ⟨rfl, hb1⟩
    have HB2 := Lib.hid (joins HB1.out hb1)
    clear hb1
    go_wp2_with fail
    go_returns
    exact ⟨_, rfl, OwnG.nil _ _, HB2.out⟩
  | true =>
  rw [h2] at HPG
  cases h3 : inB n0 1 64 with
  | false =>
    have hb := show dyB s a b d0 n0 = false by rw [hdef, h3, Bool.and_false]; rfl
    rw [hb, hfin hb]
    have HI1 := Lib.hid (fun w1 => h3 ▸ HI1.out w1)
    clear hdef hfin hyes hb h1 h2 h3 hv hbb
    go_enter Try.func25, Try.ntmps25
    go_wp2_with fail
    rw [← hwb]
    clear hwb
    refine (HCO.out).mono ?_
    rintro e w1 ⟨rfl, hb1⟩
    have HB1 := Lib.hid (joins HB.out hb1)
    have c1 := keepc hb1 C1.out
    have c2 := keepc hb1 C2.out
    clear hb1
    go_wp2_with fail
    refine (HPG.out _).mono ?_
    rintro e w2 ⟨rfl, hb1⟩
    have HB2 := Lib.hid (joins HB1.out hb1)
    clear hb1
    go_wp2_with fail
    refine (HI1.out _).mono ?_
    rintro e w3 ⟨rfl, rfl⟩
    go_wp2_with fail
    go_returns
    exact ⟨_, rfl, OwnG.nil _ _, HB2.out⟩
  | true =>
  have HI1 := Lib.hid (fun w1 => h3 ▸ HI1.out w1)
  have hn0 : 1 ≤ n0 ∧ n0 ≤ 64 := by unfold inB at h3; simpa using h3
  cases h4 : inB d0 0 (n0 - 1) with
  | false =>
    have hb := show dyB s a b d0 n0 = false by rw [hdef, h4, Bool.and_false]
    rw [hb, hfin hb]
    have HI2 := Lib.hid (fun w1 => h4 ▸ HI2.out w1)
    clear hdef hfin hyes hb h1 h2 h3 h4 hv hbb
    have hwr : wrap64 (n0 - 1) = n0 - 1 := IntWalk.wrap64_in _ ⟨by omega, by omega⟩
    go_enter Try.func25, Try.ntmps25
    go_wp2_with fail
    rw [← hwb]
    clear hwb
    refine (HCO.out).mono ?_
    rintro e w1 ⟨rfl, hb1⟩
    have HB1 := Lib.hid (joins HB.out hb1)
    have c1 := keepc hb1 C1.out
    have c2 := keepc hb1 C2.out
    clear hb1
    go_wp2_with fail
    refine (HPG.out _).mono ?_
    rintro e w2 ⟨rfl, hb1⟩
    have HB2 := Lib.hid (joins HB1.out hb1)
    clear hb1
    go_wp2_with fail
    refine (HI1.out _).mono ?_
    rintro e w3 ⟨rfl, rfl⟩
    go_wp2_with fail
    refine (HI2.out _).mono ?_
    rintro e w4 ⟨rfl, rfl⟩
    go_wp2_with fail
    go_returns
    exact ⟨_, rfl, OwnG.nil _ _, HB2.out⟩
  | true =>
  have HI2 := Lib.hid (fun w1 => h4 ▸ HI2.out w1)
  have hd0 : 0 ≤ d0 ∧ d0 ≤ n0 - 1 := by unfold inB at h4; simpa using h4
  have hb := show dyB s a b d0 n0 = true by rw [hdef, h1, h2, h3, h4]; rfl
  rw [hyes hb, hb]
  have h32 := isSeq_len (cdOk_seq h1).1
  have HK := Lib.hid (fun i (hi : i < s.length) => allIn_getD (isSeq_all (cdOk_seq h1).1) i hi)
  have HAB := Lib.hid (good_in h2)
  have HTE := Lib.hid (show ∀ i, tvX a b s i = mulX a b (vx (s.getD i 0)) (vy (s.getD i 0)) ∧ tvY a b s i = mulY a b (vx (s.getD i 0)) (vy (s.getD i 0)) from fun i => ⟨rfl, rfl⟩)
  obtain ⟨n, rfl⟩ : ∃ n : Nat, n0 = (n : Int) := ⟨n0.toNat, by omega⟩
  obtain ⟨d, rfl⟩ : ∃ d : Nat, d0 = (d : Int) := ⟨d0.toNat, by omega⟩
  simp only [Int.toNat_natCast]
  have HSTEP := Lib.hid (fun k => And.intro (dlL_set a b s d n k) (dlL_over a b s d n k))
  have HDAT := Lib.hid (dlL_at a b s d n)
  have HVS := Lib.hid (fun (h0 : 0 < s.length) => IS.cellsAt HVW.out h0)
  obtain ⟨m, hm⟩ : ∃ m, m = s.length := ⟨_, rfl⟩
  rw [← hm] at HK HCO HVS h32 ⊢
  have hwr : wrap64 ((n : Int) - 1) = (n : Int) - 1 := IntWalk.wrap64_in _ ⟨by omega, by omega⟩
  clear hdef hfin hyes hb h1 h2 h3 h4 hv hbb hm
  go_enter Try.func25, Try.ntmps25
  go_wp2_with fail
  rw [← hwb]
  clear hwb
  refine (HCO.out).mono ?_
  rintro e w1 ⟨rfl, hb1⟩
  have HB1 := Lib.hid (joins HB.out hb1)
  have c1 := keepc hb1 C1.out
  have c2 := keepc hb1 C2.out
  have HC1 := Lib.hid c1
  have HC2 := Lib.hid c2
  have HS1 := Lib.hid (show w.heap.size < w1.heap.size by have := hb1.size; have := HSB.out; omega)
  clear hb1
  go_wp2_with fail
  refine (HPG.out _).mono ?_
  rintro e w2 ⟨rfl, hb1⟩
  have HB2 := Lib.hid (joins HB1.out hb1)
  have D1 := Lib.hid (keepc hb1 HC1.out)
  have D2 := Lib.hid (keepc hb1 HC2.out)
  have HS2 := Lib.hid (show w.heap.size < w2.heap.size by have := hb1.size; have := HS1.out; omega)
  clear hb1 c1 c2
  go_wp2_with fail
  refine (HI1.out _).mono ?_
  rintro e w3 ⟨rfl, rfl⟩
  go_wp2_with fail
  refine (HI2.out _).mono ?_
  rintro e w4 ⟨rfl, rfl⟩
  go_wp2_with (at_make; refine wpList_make_full _ rfl _ _ 29 rfl w2.heap.size 26 i0 (.agg #[.int .i64 0, .int .i64 0]) 2 Try.underlying29 hi hz0 hz1 _ _ _ _ n rfl rfl rfl rfl ?b2 ?b3 (Nat.le_refl _) ?_)
  case b2 => rw [hz2]; omega
  case b3 => unfold maxLen; omega
  intro w5 hown0 hgrow0
  have hb5 : Below w2.heap.size w2 w5 := (Below.refl _ _).grown hgrow0 (Nat.le_refl _) (fun k h => by cases h)
  have hown1 : w5.ownsRow w2.heap.size 26 2 (.slice (some ⟨w2.heap.size, 0, none⟩) n n) n (fl (dlL a b s d n 0)) := by
    rw [dlL_zero, upG_zero, ← flR_zeros]; exact hown0
  have HO5 := Lib.hid hown1
  have HB5 := Lib.hid (joins HB2.out hb5)
  have E1 := Lib.hid (keepc hb5 D1.out)
  have E2 := Lib.hid (keepc hb5 D2.out)
  have HGW := Lib.hid (show w.heap.size ≤ w2.heap.size from Nat.le_of_lt HS2.out)
  have HNG := Lib.hid (show w2.heap.size ≠ w.heap.size from fun e => by have := HS2.out; omega)
  have HLG := Lib.hid (show w2.heap.size < w5.heap.size from (World.ownsRow.lt hown1 _ rfl).2)
  obtain ⟨g, hg⟩ : ∃ g, g = w2.heap.size := ⟨_, rfl⟩
  rw [← hg] at HO5 HGW HNG HLG ⊢
  clear hown0 hgrow0 hown1 hb5 hg hwr
  go_wp2_with fail
  go_loopw [37] (fun i wr => ∃ k : Nat, k ≤ m ∧ i = .int .i64 k ∧ wr.ownsRow g 26 2 (.slice (some ⟨g, 0, none⟩) n n) n (fl (dlL a b s d n k)) ∧ (wr.cell? ⟨w.heap.size, 0, none⟩ = some (.int .i64 a) ∧ wr.cell? ⟨w.heap.size, 1, none⟩ = some (.int .i64 b)) ∧ Below w.heap.size w wr) (fun i _ => m - (intOf i).toNat)
  case atStart => exact ⟨0, Nat.zero_le _, rfl, HO5.out, ⟨E1.out, E2.out⟩, HB5.out⟩
  case round =>
    obtain ⟨k, hk, rfl, hown, hcc, hbel⟩ := hrel
    have HO := Lib.hid hown
    have HB := Lib.hid hbel
    have C1 := Lib.hid hcc.1
    have C2 := Lib.hid hcc.2
    have HC := Lib.hid hcc
    clear hown hcc hbel
    by_cases hlt : k < m
    · have h0 : (0 : Int) ≤ (k : Int) := by omega
      have h1 : (k : Int) < (m : Int) := by omega
      obtain ⟨b2, off2, e2, hck⟩ := HVS.out (by omega)
      subst e2
      have c3 := keepc HB.out (hck k hlt)
      have hkk := HK.out k hlt
      have HTK := Lib.hid (HTE.out k)
      obtain ⟨z, hz⟩ : ∃ z, z = s.getD k 0 := ⟨_, rfl⟩
      rw [← hz] at c3 hkk HTK
      have hdw : wrap64 ((d : Int) + (k : Int)) = (d : Int) + (k : Int) := IntWalk.wrap64_in _ ⟨by omega, by omega⟩
      have HAD := Lib.hid hdw
      have HADI := Lib.hid (show IntKind.i64.wrap ((d : Int) + (k : Int)) = (d : Int) + (k : Int) from IntWalk.i64_in _ ⟨by omega, by omega⟩)
      have HPV := Lib.hid (phValue_any z hkk.1 hkk.2)
      have hvv : (-1000000 ≤ vx z ∧ vx z ≤ 1000000) ∧ (-1000000 ≤ vy z ∧ vy z ≤ 1000000) := by have q1 := vx_one z; have q2 := vy_one z; omega
      have HPT := Lib.hid (phTimesB_any a b (vx z) (vy z) HAB.out.1 HAB.out.2 hvv.1 hvv.2)
      rw [← HTK.out.1, ← HTK.out.2] at HPT
      have HSET := Lib.hid (HSTEP.out k)
      have HDA := Lib.hid (HDAT.out k)
      obtain ⟨X1, hX1⟩ : ∃ x, x = tvX a b s k := ⟨_, rfl⟩
      obtain ⟨Y1, hY1⟩ : ∃ x, x = tvY a b s k := ⟨_, rfl⟩
      rw [← hX1, ← hY1] at HPT HSET
      have NE1 := Lib.hid HNG.out
      have NE2 := Lib.hid HNG.out
      clear hz hck hvv hX1 hY1 hdw
      by_cases hin : d + k < n
      · have hin1 : (d : Int) + (k : Int) < (n : Int) := by omega
        have HLT := Lib.hid hin
        have HJ0 := Lib.hid (show (0 : Int) ≤ (d : Int) + (k : Int) by omega)
        have HJ1 := Lib.hid hin1
        have HJM := Lib.hid (show ((d : Int) + (k : Int)).toNat = d + k by omega)
        have HCEL := Lib.hid (fun (w' : World) (ho : w'.ownsRow g 26 2 (.slice (some ⟨g, 0, none⟩) n n) n (fl (dlL a b s d n k))) => And.intro
          (show w'.cell? ⟨g, (d + k) * 2, none⟩ = some (.int .i64 0) by rw [ho.cellAt ((d + k) * 2) (by have := HLT.out; omega), fl_re _ (d + k) (by rw [dlL_length]; exact HLT.out), (HDA.out HLT.out).1])
          (show w'.cell? ⟨g, (d + k) * 2 + 1, none⟩ = some (.int .i64 0) by rw [ho.cellAt ((d + k) * 2 + 1) (by have := HLT.out; omega), fl_im _ (d + k) (by rw [dlL_length]; exact HLT.out), (HDA.out HLT.out).2]))
        have had := HAD.out
        clear hin
        go_wp2_with fail
        clear had
        refine wp_region_held_drew (S := (fun w' => World.grownBy wr w' (some (g)))) (by kernel_rfl) (grownDrew (World.grownBy.refl _ _)) ?_
        obtain ⟨d1, hdw⟩ : ∃ w', w' = wr.drew := ⟨_, rfl⟩
        rw [← hdw]
        have hb : Below wr.heap.size wr d1 := by rw [hdw]; exact belowN (Below.refl _ _) 1
        have F1_O := Lib.hid (rowBelow HO.out hb)
        have F1_B := Lib.hid (joins HB.out hb)
        have F1_C := Lib.hid (And.intro (keepc hb HC.out.1) (keepc hb HC.out.2))
        clear hdw hb
        intro hHeld
        refine' wpAnyH_take (i := 0) (v := _) rfl (by kernel_rfl) (by kernel_rfl) (by kernel_rfl) (fun _ _ _ h => h) (Or.inl ⟨by rfl, ?hy1⟩) (by assumption) ?rest1
        case hy1 =>
          intro w h
          (try clear h)
          go_simp
          (try with_reducible rfl)
        (try simp only [Act.put, List.getElem_toArray, List.getElem_cons_zero, List.setIfInBounds_toArray, List.set_cons_zero, List.set_cons_succ])
        refine' wpAnyH_take (i := 1) (v := _) rfl (by kernel_rfl) (by kernel_rfl) (by kernel_rfl) (fun _ _ _ h => h) (Or.inl ⟨by rfl, ?hy2⟩) (by assumption) ?rest2
        case hy2 =>
          intro w h
          (try clear h)
          go_simp
          (try with_reducible rfl)
        (try simp only [Act.put, List.getElem_toArray, List.getElem_cons_zero, List.getElem_cons_succ, List.setIfInBounds_toArray, List.set_cons_zero, List.set_cons_succ])
        refine' wpAnyH_take (i := 2) (v := _) rfl (by kernel_rfl) (by kernel_rfl) (by kernel_rfl) (fun _ _ _ h => h) (Or.inl ⟨by rfl, ?hy3⟩) (by assumption) ?rest3
        case hy3 =>
          intro w h
          (try clear h)
          go_simp
          (try with_reducible rfl)
        (try simp only [Act.put, List.getElem_toArray, List.getElem_cons_zero, List.getElem_cons_succ, List.setIfInBounds_toArray, List.set_cons_zero, List.set_cons_succ])
        refine' wpAnyH_take (i := 3) (v := _) rfl (by kernel_rfl) (by kernel_rfl) (by kernel_rfl) (fun _ _ _ h => h) (Or.inl ⟨by rfl, ?hy4⟩) (by assumption) ?rest4
        case hy4 =>
          intro w h
          have e1 := HADI.out
          (try clear h)
          go_simp
          (try with_reducible rfl)
        (try simp only [Act.put, List.getElem_toArray, List.getElem_cons_zero, List.getElem_cons_succ, List.setIfInBounds_toArray, List.set_cons_zero, List.set_cons_succ])
        refine' wpAnyH_take (i := 4) (v := _) rfl (by kernel_rfl) (by kernel_rfl) (by kernel_rfl) (fun _ _ _ h => h) (Or.inl ⟨by rfl, ?hy5⟩) (by assumption) ?rest5
        case hy5 =>
          intro w h
          have c1 := cellR h C1.out (fun e => NE1.out (Option.some.inj e))
          have c2 := cellR h C2.out (fun e => NE1.out (Option.some.inj e))
          (try clear h)
          go_simp
          (try with_reducible rfl)
        (try simp only [Act.put, List.getElem_toArray, List.getElem_cons_zero, List.getElem_cons_succ, List.setIfInBounds_toArray, List.set_cons_zero, List.set_cons_succ])
        refine' wpAnyH_take (i := 5) (v := _) rfl (by kernel_rfl) (by kernel_rfl) (by kernel_rfl) (fun _ _ _ h => h) (Or.inl ⟨by rfl, ?hy6⟩) (by assumption) ?rest6
        case hy6 =>
          intro w h
          (try clear h)
          go_simp
          (try with_reducible rfl)
        (try simp only [Act.put, List.getElem_toArray, List.getElem_cons_zero, List.getElem_cons_succ, List.setIfInBounds_toArray, List.set_cons_zero, List.set_cons_succ])
        refine wpAnyH_ready (rs := [6]) (by kernel_rfl) (by simp) ?_
        refine AllReadyH.cons rfl (fun K hK => ?_) AllReadyH.nil
        go_simp
        refine (HPV.out _).mono ?_
        rintro e d2 ⟨rfl, hb⟩
        have F2_O := Lib.hid (rowBelow F1_O.out hb)
        have F2_B := Lib.hid (joins F1_B.out hb)
        have F2_C := Lib.hid (And.intro (keepc hb F1_C.out.1) (keepc hb F1_C.out.2))
        have hHeld := grownB hHeld hb
        clear hb
        refine hK.out _ _ hHeld (fun hHeld => ?_)
        clear hK K
        (try simp only [Act.put, List.getElem_toArray, List.getElem_cons_zero, List.getElem_cons_succ, List.setIfInBounds_toArray, List.set_cons_zero, List.set_cons_succ])
        refine wpAnyH_ready (rs := [7]) (by kernel_rfl) (by simp) ?_
        refine AllReadyH.cons rfl (fun K hK => ?_) AllReadyH.nil
        go_simp
        refine (HPT.out _).mono ?_
        rintro e d3 ⟨rfl, hb⟩
        have F3_O := Lib.hid (rowBelow F2_O.out hb)
        have F3_B := Lib.hid (joins F2_B.out hb)
        have F3_C := Lib.hid (And.intro (keepc hb F2_C.out.1) (keepc hb F2_C.out.2))
        have hHeld := grownB hHeld hb
        clear hb
        refine hK.out _ _ hHeld (fun hHeld => ?_)
        clear hK K
        (try simp only [Act.put, List.getElem_toArray, List.getElem_cons_zero, List.getElem_cons_succ, List.setIfInBounds_toArray, List.set_cons_zero, List.set_cons_succ])
        refine' wpAnyH_take (i := 8) (v := _) rfl (by kernel_rfl) (by kernel_rfl) (by kernel_rfl) (fun _ _ _ h => h) (Or.inl ⟨by rfl, ?hy7⟩) (by assumption) ?rest7
        case hy7 =>
          intro w h
          have h0 := HJ0.out
          have h1 := HJ1.out
          have e3 := HJM.out
          (try clear h)
          go_simp
          (try with_reducible rfl)
        (try simp only [Act.put, List.getElem_toArray, List.getElem_cons_zero, List.getElem_cons_succ, List.setIfInBounds_toArray, List.set_cons_zero, List.set_cons_succ])
        refine wpAnyH_ready (rs := [9]) (by kernel_rfl) (by simp) ?_
        refine AllReadyH.cons rfl (fun K hK => ?_) AllReadyH.nil
        have c1 := (HCEL.out _ F3_O.out).1
        have c2 := (HCEL.out _ F3_O.out).2
        have f1 := F3_O.out.frozenAt ((d + k) * 2)
        have f2 := F3_O.out.frozenAt ((d + k) * 2 + 1)
        go_simp
        refine hK.out _ _ (grownSet (grownSet hHeld _ _) _ _) (fun hHeld => ?_)
        clear hK K
        (try simp only [Act.put])
        refine wpAnyH_done (by kernel_rfl) ?_ _
        have hs := F3_O.out.stored ((d + k) * 2) (.int .i64 X1)
        have hs2 := hs.1.stored ((d + k) * 2 + 1) (.int .i64 Y1)
        rw [fl_set2 _ (d + k) (by rw [dlL_length]; exact HLT.out)] at hs2
        have HO2 := Lib.hid hs2.1
        have HCC := Lib.hid (And.intro (cell_two HNG.out ((d + k) * 2) ((d + k) * 2 + 1) (.int .i64 X1) (.int .i64 Y1) F3_C.out.1) (cell_two HNG.out ((d + k) * 2) ((d + k) * 2 + 1) (.int .i64 X1) (.int .i64 Y1) F3_C.out.2))
        have HB2 := Lib.hid (show Below w.heap.size w ((d3.setCell ⟨g, (d + k) * 2, none⟩ (.int .i64 X1)).setCell ⟨g, (d + k) * 2 + 1, none⟩ (.int .i64 Y1)) from belows (belows F3_B.out HGW.out _) HGW.out _)
        clear hs hs2
        go_wp2_with fail
        go_roundw
        case rel =>
          refine ⟨k + 1, by omega, by go_num, ?_, ⟨HCC.out.1, HCC.out.2⟩, HB2.out⟩
          rw [← HSET.out.1 HLT.out]
          exact HO2.out
        case measure => simp [intOf]; omega
      · have hin1 : ¬ (d : Int) + (k : Int) < (n : Int) := by omega
        have hsame := HSET.out.2 hin
        have had := HAD.out
        clear hin
        go_wp2_with fail
        go_roundw
        case rel => exact ⟨k + 1, by omega, by go_num, by rw [hsame]; exact HO.out, HC.out, HB.out⟩
        case measure => simp [intOf]; omega
    · obtain rfl : k = m := by omega
      have hO : OwnG wr g (.slice (some ⟨g, 0, none⟩) n n) (dlL a b s d n k) := by
        unfold OwnG
        rw [dlL_length]
        exact HO.out
      have HOG := Lib.hid (OwnG.mono hO HGW.out)
      clear hO
      go_wp2_with fail
      go_returns
      exact ⟨_, rfl, HOG.out, HB.out⟩
end Go.Proofs.Ytapmehgdnofgnab
