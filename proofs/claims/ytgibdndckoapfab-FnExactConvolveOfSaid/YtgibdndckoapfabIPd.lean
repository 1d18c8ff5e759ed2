/- The program's productSums, ConvolveOf and CorrelateOf. -/
import Derived.Test.YtgibdndckoapfabICv
import Derived.Test.YtgibdndckoapfabICo
import Derived.Test.YtgibdndckoapfabISg
import Derived.Test.YtgibdndckoapfabISl
namespace Go.Proofs.Ytgibdndckoapfab
set_option maxRecDepth 100000
open Go.RowKit

set_option maxRecDepth 100000 in
set_option maxHeartbeats 4000000 in
theorem productSums_convolved (va vb : Value) (a b : List (Int × Int)) (X Y : Nat → Int) (w : World) (hva : IG w va a) (hvb : IG w vb b)
    (hF : twOk a b = true → ∀ (g1 g2 B1 B2 : Nat) (C D : Nat → Nat × Nat) (w' : World), RowC w' B1 g1 a.length C → RowC w' B2 g2 a.length D → CZ C (gre a) (gim a) a.length → CZ D (gre b) (gim b) a.length →
      Calls Try.prog 44 #[.slice (some ⟨g1, 0, none⟩) a.length a.length, .slice (some ⟨g2, 0, none⟩) a.length a.length] w' (MakesD w' a.length X Y))
    (hXY : twOk a b = true → ∀ u, u < a.length → (-9000000000000000 ≤ X u ∧ X u ≤ 9000000000000000) ∧ (-9000000000000000 ≤ Y u ∧ Y u ≤ 9000000000000000)) :
    Calls Try.prog 43 #[va, vb, .func (.func 44) #[] #[]] w (MakesGB w (if (twOk a b && goodL (genG a.length X Y)) then genG a.length X Y else []) (twOk a b && goodL (genG a.length X Y))) := by
  obtain ⟨i0, hi, hz0, hz1, hz2⟩ := info_parts infoG
  have HS1 := Lib.hid (signalOf_any 3 (tfSz a.length) va a (fun w => by rw [← tfZ_nat]; exact fits_conj _ w) (fun h => by have := tfSz_cases h; omega) w hva)
  have HS2 := Lib.hid (fun w' (hb : Below w.heap.size w w') => signalOf_any 3 (tfSz b.length) vb b (fun w => by rw [← tfZ_nat]; exact fits_conj _ w) (fun h => by have := tfSz_cases h; omega) w' (hvb.below hb))
  obtain ⟨aa, ca, rfl⟩ := hva.slice
  obtain ⟨ab, cb, rfl⟩ := hvb.slice
  cases h1 : tfOk a with
  | false =>
    rw [show (tfSz a.length && goodL a) = false from h1] at HS1
    have e1 : twOk a b = false := by unfold twOk; rw [h1]; rfl
    rw [e1, Bool.false_and, if_neg Bool.false_ne_true]
    cases h2 : tfOk b with
    | false =>
      rw [show (tfSz b.length && goodL b) = false from h2] at HS2
      clear hF hXY e1 h1 h2 hva hvb
      go_enter Try.func43, Try.ntmps43
      go_wp2_with fail
      refine (HS1.out).mono ?_
      rintro e w1 ⟨hb, ⟨h, _⟩ | ⟨_, rfl⟩⟩
      · cases h
      have HB1 := Lib.hid hb
      clear hb
      go_wp2_with fail
      refine (HS2.out _ HB1.out).mono ?_
      rintro e w2 ⟨hb, ⟨h, _⟩ | ⟨_, rfl⟩⟩
      · cases h
      have HB2 := Lib.hid (joins HB1.out hb)
      clear hb
      go_wp2_with fail
      go_returns
      exact ⟨_, rfl, OwnG.nil _ _, HB2.out⟩
    | true =>
      rw [show (tfSz b.length && goodL b) = true from h2] at HS2
      clear hF hXY e1 h1 h2 hva hvb
      go_enter Try.func43, Try.ntmps43
      go_wp2_with fail
      refine (HS1.out).mono ?_
      rintro e w1 ⟨hb, ⟨h, _⟩ | ⟨_, rfl⟩⟩
      · cases h
      have HB1 := Lib.hid hb
      clear hb
      go_wp2_with fail
      refine (HS2.out _ HB1.out).mono ?_
      rintro e w2 ⟨hb, ⟨_, g, rfl, _⟩ | ⟨h, _⟩⟩
      case inr => cases h
      have HB2 := Lib.hid (joins HB1.out hb)
      clear hb
      go_wp2_with fail
      go_returns
      exact ⟨_, rfl, OwnG.nil _ _, HB2.out⟩
  | true =>
    rw [show (tfSz a.length && goodL a) = true from h1] at HS1
    cases h2 : tfOk b with
    | false =>
      rw [show (tfSz b.length && goodL b) = false from h2] at HS2
      have e1 : twOk a b = false := by unfold twOk; rw [h1, h2]; rfl
      rw [e1, Bool.false_and, if_neg Bool.false_ne_true]
      clear hF hXY e1 h1 h2 hva hvb
      go_enter Try.func43, Try.ntmps43
      go_wp2_with fail
      refine (HS1.out).mono ?_
      rintro e w1 ⟨hb, ⟨_, g, rfl, _⟩ | ⟨h, _⟩⟩
      case inr => cases h
      have HB1 := Lib.hid hb
      clear hb
      go_wp2_with fail
      refine (HS2.out _ HB1.out).mono ?_
      rintro e w2 ⟨hb, ⟨h, _⟩ | ⟨_, rfl⟩⟩
      · cases h
      have HB2 := Lib.hid (joins HB1.out hb)
      clear hb
      go_wp2_with fail
      go_returns
      exact ⟨_, rfl, OwnG.nil _ _, HB2.out⟩
    | true =>
      rw [show (tfSz b.length && goodL b) = true from h2] at HS2
      have la := tfOk_len h1
      have lb := tfOk_len h2
      by_cases hab : a.length = b.length
      · have e1 : twOk a b = true := by unfold twOk; rw [h1, h2, decide_eq_true hab]; rfl
        rw [e1, Bool.true_and]
        have hF := hF e1
        have hXY := hXY e1
        have hg1 := fbC_ok (gre a) (gim a) a.length (fun i hi => goodL_at (tfOk_good h1) i hi)
        have hg2 := fbC_ok (gre b) (gim b) b.length (fun i hi => goodL_at (tfOk_good h2) i hi)
        rw [← hab] at hg2 HS2 ⊢
        obtain ⟨n, hn⟩ : ∃ n, n = a.length := ⟨_, rfl⟩
        rw [← hn] at HS1 HS2 la hF hXY hg1 hg2 ⊢
        obtain ⟨C, hC⟩ : ∃ C, C = fbC (gre a) (gim a) := ⟨_, rfl⟩
        obtain ⟨D, hD⟩ : ∃ C, C = fbC (gre b) (gim b) := ⟨_, rfl⟩
        rw [← hC] at HS1 hg1
        rw [← hD] at HS2 hg2
        have HF := Lib.hid (fun (g1 g2 B1 B2 : Nat) (w' : World) (r1 : RowC w' B1 g1 n C) (r2 : RowC w' B2 g2 n D) => hF g1 g2 B1 B2 C D w' r1 r2 hg1 hg2)
        have HXY := Lib.hid hXY
        obtain ⟨L, hL⟩ : ∃ L, L = genG n X Y := ⟨_, rfl⟩
        rw [← hL]
        obtain ⟨L2, hL2⟩ : ∃ L2, L2 = (if goodL L then L else []) := ⟨_, rfl⟩
        rw [← hL2]
        obtain ⟨q, hq⟩ : ∃ q, q = goodL L := ⟨_, rfl⟩
        rw [← hq]
        have HL := Lib.hid (And.intro hL (And.intro hL2 hq))
        obtain ⟨hl1, hl2⟩ := la
        clear hF hXY e1 h1 h2 hva hvb hab hn hC hD hg1 hg2 hL hL2 hq lb
        go_enter Try.func43, Try.ntmps43
        go_wp2_with fail
        refine (HS1.out).mono ?_
        rintro e w1 ⟨hb, ⟨_, g1, rfl, hr⟩ | ⟨h, _⟩⟩
        case inr => cases h
        have HB1 := Lib.hid hb
        have HR1 := Lib.hid hr
        clear hb hr
        go_wp2_with fail
        refine (HS2.out _ HB1.out).mono ?_
        rintro e w2 ⟨hb, ⟨_, g2, rfl, hr⟩ | ⟨h, _⟩⟩
        case inr => cases h
        have HB2 := Lib.hid (joins HB1.out hb)
        have HR12 := Lib.hid (HR1.out.below hb)
        have HR2 := Lib.hid hr
        clear hb hr
        go_wp2_with (at_make; refine wpList_make_full _ rfl _ _ 26 rfl w2.heap.size 45 i0 (.agg #[.int .i64 0, .int .i64 0]) 2 Try.underlying26 hi hz0 hz1 _ _ _ _ n rfl rfl rfl rfl ?b2 ?b3 (Nat.le_refl _) ?_)
        case b2 => rw [hz2]; omega
        case b3 => unfold maxLen; omega
        intro w0 hown0 hgrow0
        have hown1 : w0.ownsRow w2.heap.size 45 2 (.slice (some ⟨w2.heap.size, 0, none⟩) n n) n (fl (upG n 0 X Y)) := by
          rw [upG_zero, ← flR_zeros]; exact hown0
        have hb0 : Below w2.heap.size w2 w0 := (Below.refl _ _).grown hgrow0 (Nat.le_refl _) (fun k h => by cases h)
        have HO0 := Lib.hid hown1
        have HB0 := Lib.hid (joins HB2.out hb0)
        have HF0 := Lib.hid (HF.out g1 g2 _ _ w0 (HR12.out.below hb0) (HR2.out.below hb0))
        have HLE := Lib.hid HB2.out.size
        clear hown0 hown1 hgrow0 hb0
        go_wp2_with fail
        refine (HF0.out).mono ?_
        rintro e w3 ⟨g, E, rfl, hr, hfk, hb⟩
        have HO3 := Lib.hid (rowBelow HO0.out hb)
        have HB3 := Lib.hid (joins HB0.out hb)
        have HR3 := Lib.hid hr
        have HFK := Lib.hid hfk
        have HNE := Lib.hid (show (w2.heap.size : Nat) ≠ g from by have := hr.lt.1; have : w2.heap.size < w0.heap.size := (World.ownsRow.lt HO0.out _ rfl).2; omega)
        clear hr hfk hb
        go_wp2_with fail
        go_loopw [46] (fun i wr => ∃ j : Nat, j ≤ n ∧ i = .int .i64 j ∧ wr.ownsRow w2.heap.size 45 2 (.slice (some ⟨w2.heap.size, 0, none⟩) n n) n (fl (upG n j X Y)) ∧ RowD wr w0.heap.size g n E ∧ Below w.heap.size w wr) (fun i _ => n - (intOf i).toNat)
        case atStart => exact ⟨0, Nat.zero_le _, rfl, HO3.out, HR3.out, HB3.out⟩
        case round =>
          obtain ⟨j, hj, rfl, hown, hrow, hbel⟩ := hrel
          have HB := Lib.hid hbel
          by_cases hlt : j < n
          · have c0 := hrow.cell j hlt
            have fk := HFK.out j hlt
            have hxy := HXY.out j hlt
            have i1 := FN_toInt fk.1 (by omega)
            have i2 := FN_toInt fk.2 (by omega)
            have c1 : wr.cell? ⟨w2.heap.size, j * 2, none⟩ = some (.int .i64 (gre (upG n j X Y) j)) := by
              rw [hown.cellAt (j * 2) (by omega)]
              exact fl_re _ j (by rw [upG_length]; omega)
            have c2 : wr.cell? ⟨w2.heap.size, j * 2 + 1, none⟩ = some (.int .i64 (gim (upG n j X Y) j)) := by
              rw [hown.cellAt (j * 2 + 1) (by omega)]
              exact fl_im _ j (by rw [upG_length]; omega)
            rw [upG_re n j X Y j hlt, if_neg (Nat.lt_irrefl _)] at c1
            rw [upG_im n j X Y j hlt, if_neg (Nat.lt_irrefl _)] at c2
            have f1 := hown.frozenAt (j * 2)
            have f2 := hown.frozenAt (j * 2 + 1)
            have hs := hown.stored (j * 2) (.int .i64 (X j))
            have hs2 := hs.1.stored (j * 2 + 1) (.int .i64 (Y j))
            have hrd := (hrow.grown hs.2 HNE.out.symm).grown hs2.2 HNE.out.symm
            have ho2 := hs2.1
            rw [fl_set2 _ j (by rw [upG_length]; exact hlt), upG_set n j X Y hlt] at ho2
            obtain ⟨x, hx⟩ : ∃ x, x = X j := ⟨_, rfl⟩
            obtain ⟨y, hy⟩ : ∃ y, y = Y j := ⟨_, rfl⟩
            obtain ⟨p1, hp1⟩ : ∃ p, p = (E j).1 := ⟨_, rfl⟩
            obtain ⟨p2, hp2⟩ : ∃ p, p = (E j).2 := ⟨_, rfl⟩
            rw [← hx, ← hy] at hrd ho2
            rw [← hp1, ← hp2] at c0
            rw [← hp1, ← hx] at i1
            rw [← hp2, ← hy] at i2
            have hv1 := fun w => run_convert_float_int (P := Try.prog) w 94 3 .f64 .i64 p1 x rfl Try.underlying3 i1
            have hv2 := fun w => run_convert_float_int (P := Try.prog) w 94 3 .f64 .i64 p2 y rfl Try.underlying3 i2
            have HRD := Lib.hid hrd
            have HO2 := Lib.hid ho2
            have h0 : (0 : Int) ≤ (j : Int) := by omega
            have h1 : (j : Int) < (n : Int) := by omega
            clear fk hxy i1 i2 hs hs2 hrd ho2 hx hy hp1 hp2 hown hrow hbel
            go_wp2_with fail
            go_roundw
            case rel => exact ⟨j + 1, by omega, by go_num, HO2.out, HRD.out, belows (belows HB.out HLE.out _) HLE.out _⟩
            case measure => simp [intOf]; omega
          · obtain rfl : j = n := by omega
            have hO : OwnG wr w.heap.size (.slice (some ⟨w2.heap.size, 0, none⟩) j j) L := by
              have h := rowMono hown HLE.out
              rw [upG_all] at h
              rw [HL.out.1]
              unfold OwnG
              rw [genG_length]
              exact h
            have HOG := Lib.hid hO
            have HV := Lib.hid (listIfValid_any _ L wr hO.is)
            rw [← HL.out.2.2] at HV
            clear hO hown hrow hbel
            go_wp2_with fail
            refine (HV.out).mono ?_
            rintro e w4 ⟨rfl, hb⟩
            cases q with
            | true =>
              rw [if_pos rfl]
              have HE := Lib.hid (show L2 = L by rw [HL.out.2.1, ← HL.out.2.2]; rfl)
              have HOG1 := Lib.hid (HOG.out.below hb)
              have HB4 := Lib.hid (joins HB.out hb)
              clear hb
              go_wp2_with fail
              go_returns
              refine ⟨_, rfl, ?_, HB4.out⟩
              rw [HE.out]
              exact HOG1.out
            | false =>
              rw [if_neg Bool.false_ne_true]
              have HE := Lib.hid (show L2 = [] by rw [HL.out.2.1, ← HL.out.2.2]; rfl)
              have HB4 := Lib.hid (joins HB.out hb)
              clear hb
              go_wp2_with fail
              go_returns
              refine ⟨_, rfl, ?_, HB4.out⟩
              rw [HE.out]
              exact OwnG.nil _ _
      · have e1 : twOk a b = false := by unfold twOk; rw [h1, h2, decide_eq_false hab]; rfl
        rw [e1, Bool.false_and, if_neg Bool.false_ne_true]
        obtain ⟨n, hn⟩ : ∃ n, n = a.length := ⟨_, rfl⟩
        obtain ⟨m, hm⟩ : ∃ n, n = b.length := ⟨_, rfl⟩
        rw [← hn] at HS1 la hab ⊢
        rw [← hm] at HS2 lb hab ⊢
        have hne : ((n : Int) = (m : Int)) = False := by simp; omega
        clear hF hXY e1 h1 h2 hva hvb hn hm
        go_enter Try.func43, Try.ntmps43
        go_wp2_with fail
        refine (HS1.out).mono ?_
        rintro e w1 ⟨hb, ⟨_, g1, rfl, hr⟩ | ⟨h, _⟩⟩
        case inr => cases h
        have HB1 := Lib.hid hb
        clear hb hr
        go_wp2_with fail
        refine (HS2.out _ HB1.out).mono ?_
        rintro e w2 ⟨hb, ⟨_, g2, rfl, hr⟩ | ⟨h, _⟩⟩
        case inr => cases h
        have HB2 := Lib.hid (joins HB1.out hb)
        clear hb hr
        go_wp2_with fail
        go_returns
        exact ⟨_, rfl, OwnG.nil _ _, HB2.out⟩

set_option maxRecDepth 100000 in
set_option maxHeartbeats 4000000 in
theorem productSums_correlated (va vb : Value) (a b : List (Int × Int)) (X Y : Nat → Int) (w : World) (hva : IG w va a) (hvb : IG w vb b)
    (hF : twOk a b = true → ∀ (g1 g2 B1 B2 : Nat) (C D : Nat → Nat × Nat) (w' : World), RowC w' B1 g1 a.length C → RowC w' B2 g2 a.length D → CZ C (gre a) (gim a) a.length → CZ D (gre b) (gim b) a.length →
      Calls Try.prog 46 #[.slice (some ⟨g1, 0, none⟩) a.length a.length, .slice (some ⟨g2, 0, none⟩) a.length a.length] w' (MakesD w' a.length X Y))
    (hXY : twOk a b = true → ∀ u, u < a.length → (-9000000000000000 ≤ X u ∧ X u ≤ 9000000000000000) ∧ (-9000000000000000 ≤ Y u ∧ Y u ≤ 9000000000000000)) :
    Calls Try.prog 43 #[va, vb, .func (.func 46) #[] #[]] w (MakesGB w (if (twOk a b && goodL (genG a.length X Y)) then genG a.length X Y else []) (twOk a b && goodL (genG a.length X Y))) := by
  obtain ⟨i0, hi, hz0, hz1, hz2⟩ := info_parts infoG
  have HS1 := Lib.hid (signalOf_any 3 (tfSz a.length) va a (fun w => by rw [← tfZ_nat]; exact fits_conj _ w) (fun h => by have := tfSz_cases h; omega) w hva)
  have HS2 := Lib.hid (fun w' (hb : Below w.heap.size w w') => signalOf_any 3 (tfSz b.length) vb b (fun w => by rw [← tfZ_nat]; exact fits_conj _ w) (fun h => by have := tfSz_cases h; omega) w' (hvb.below hb))
  obtain ⟨aa, ca, rfl⟩ := hva.slice
  obtain ⟨ab, cb, rfl⟩ := hvb.slice
  cases h1 : tfOk a with
  | false =>
    rw [show (tfSz a.length && goodL a) = false from h1] at HS1
    have e1 : twOk a b = false := by unfold twOk; rw [h1]; rfl
    rw [e1, Bool.false_and, if_neg Bool.false_ne_true]
    cases h2 : tfOk b with
    | false =>
      rw [show (tfSz b.length && goodL b) = false from h2] at HS2
      clear hF hXY e1 h1 h2 hva hvb
      go_enter Try.func43, Try.ntmps43
      go_wp2_with fail
      refine (HS1.out).mono ?_
      rintro e w1 ⟨hb, ⟨h, _⟩ | ⟨_, rfl⟩⟩
      · cases h
      have HB1 := Lib.hid hb
      clear hb
      go_wp2_with fail
      refine (HS2.out _ HB1.out).mono ?_
      rintro e w2 ⟨hb, ⟨h, _⟩ | ⟨_, rfl⟩⟩
      · cases h
      have HB2 := Lib.hid (joins HB1.out hb)
      clear hb
      go_wp2_with fail
      go_returns
      exact ⟨_, rfl, OwnG.nil _ _, HB2.out⟩
    | true =>
      rw [show (tfSz b.length && goodL b) = true from h2] at HS2
      clear hF hXY e1 h1 h2 hva hvb
      go_enter Try.func43, Try.ntmps43
      go_wp2_with fail
      refine (HS1.out).mono ?_
      rintro e w1 ⟨hb, ⟨h, _⟩ | ⟨_, rfl⟩⟩
      · cases h
      have HB1 := Lib.hid hb
      clear hb
      go_wp2_with fail
      refine (HS2.out _ HB1.out).mono ?_
      rintro e w2 ⟨hb, ⟨_, g, rfl, _⟩ | ⟨h, _⟩⟩
      case inr => cases h
      have HB2 := Lib.hid (joins HB1.out hb)
      clear hb
      go_wp2_with fail
      go_returns
      exact ⟨_, rfl, OwnG.nil _ _, HB2.out⟩
  | true =>
    rw [show (tfSz a.length && goodL a) = true from h1] at HS1
    cases h2 : tfOk b with
    | false =>
      rw [show (tfSz b.length && goodL b) = false from h2] at HS2
      have e1 : twOk a b = false := by unfold twOk; rw [h1, h2]; rfl
      rw [e1, Bool.false_and, if_neg Bool.false_ne_true]
      clear hF hXY e1 h1 h2 hva hvb
      go_enter Try.func43, Try.ntmps43
      go_wp2_with fail
      refine (HS1.out).mono ?_
      rintro e w1 ⟨hb, ⟨_, g, rfl, _⟩ | ⟨h, _⟩⟩
      case inr => cases h
      have HB1 := Lib.hid hb
      clear hb
      go_wp2_with fail
      refine (HS2.out _ HB1.out).mono ?_
      rintro e w2 ⟨hb, ⟨h, _⟩ | ⟨_, rfl⟩⟩
      · cases h
      have HB2 := Lib.hid (joins HB1.out hb)
      clear hb
      go_wp2_with fail
      go_returns
      exact ⟨_, rfl, OwnG.nil _ _, HB2.out⟩
    | true =>
      rw [show (tfSz b.length && goodL b) = true from h2] at HS2
      have la := tfOk_len h1
      have lb := tfOk_len h2
      by_cases hab : a.length = b.length
      · have e1 : twOk a b = true := by unfold twOk; rw [h1, h2, decide_eq_true hab]; rfl
        rw [e1, Bool.true_and]
        have hF := hF e1
        have hXY := hXY e1
        have hg1 := fbC_ok (gre a) (gim a) a.length (fun i hi => goodL_at (tfOk_good h1) i hi)
        have hg2 := fbC_ok (gre b) (gim b) b.length (fun i hi => goodL_at (tfOk_good h2) i hi)
        rw [← hab] at hg2 HS2 ⊢
        obtain ⟨n, hn⟩ : ∃ n, n = a.length := ⟨_, rfl⟩
        rw [← hn] at HS1 HS2 la hF hXY hg1 hg2 ⊢
        obtain ⟨C, hC⟩ : ∃ C, C = fbC (gre a) (gim a) := ⟨_, rfl⟩
        obtain ⟨D, hD⟩ : ∃ C, C = fbC (gre b) (gim b) := ⟨_, rfl⟩
        rw [← hC] at HS1 hg1
        rw [← hD] at HS2 hg2
        have HF := Lib.hid (fun (g1 g2 B1 B2 : Nat) (w' : World) (r1 : RowC w' B1 g1 n C) (r2 : RowC w' B2 g2 n D) => hF g1 g2 B1 B2 C D w' r1 r2 hg1 hg2)
        have HXY := Lib.hid hXY
        obtain ⟨L, hL⟩ : ∃ L, L = genG n X Y := ⟨_, rfl⟩
        rw [← hL]
        obtain ⟨L2, hL2⟩ : ∃ L2, L2 = (if goodL L then L else []) := ⟨_, rfl⟩
        rw [← hL2]
        obtain ⟨q, hq⟩ : ∃ q, q = goodL L := ⟨_, rfl⟩
        rw [← hq]
        have HL := Lib.hid (And.intro hL (And.intro hL2 hq))
        obtain ⟨hl1, hl2⟩ := la
        clear hF hXY e1 h1 h2 hva hvb hab hn hC hD hg1 hg2 hL hL2 hq lb
        go_enter Try.func43, Try.ntmps43
        go_wp2_with fail
        refine (HS1.out).mono ?_
        rintro e w1 ⟨hb, ⟨_, g1, rfl, hr⟩ | ⟨h, _⟩⟩
        case inr => cases h
        have HB1 := Lib.hid hb
        have HR1 := Lib.hid hr
        clear hb hr
        go_wp2_with fail
        refine (HS2.out _ HB1.out).mono ?_
        rintro e w2 ⟨hb, ⟨_, g2, rfl, hr⟩ | ⟨h, _⟩⟩
        case inr => cases h
        have HB2 := Lib.hid (joins HB1.out hb)
        have HR12 := Lib.hid (HR1.out.below hb)
        have HR2 := Lib.hid hr
        clear hb hr
        go_wp2_with (at_make; refine wpList_make_full _ rfl _ _ 26 rfl w2.heap.size 45 i0 (.agg #[.int .i64 0, .int .i64 0]) 2 Try.underlying26 hi hz0 hz1 _ _ _ _ n rfl rfl rfl rfl ?b2 ?b3 (Nat.le_refl _) ?_)
        case b2 => rw [hz2]; omega
        case b3 => unfold maxLen; omega
        intro w0 hown0 hgrow0
        have hown1 : w0.ownsRow w2.heap.size 45 2 (.slice (some ⟨w2.heap.size, 0, none⟩) n n) n (fl (upG n 0 X Y)) := by
          rw [upG_zero, ← flR_zeros]; exact hown0
        have hb0 : Below w2.heap.size w2 w0 := (Below.refl _ _).grown hgrow0 (Nat.le_refl _) (fun k h => by cases h)
        have HO0 := Lib.hid hown1
        have HB0 := Lib.hid (joins HB2.out hb0)
        have HF0 := Lib.hid (HF.out g1 g2 _ _ w0 (HR12.out.below hb0) (HR2.out.below hb0))
        have HLE := Lib.hid HB2.out.size
        clear hown0 hown1 hgrow0 hb0
        go_wp2_with fail
        refine (HF0.out).mono ?_
        rintro e w3 ⟨g, E, rfl, hr, hfk, hb⟩
        have HO3 := Lib.hid (rowBelow HO0.out hb)
        have HB3 := Lib.hid (joins HB0.out hb)
        have HR3 := Lib.hid hr
        have HFK := Lib.hid hfk
        have HNE := Lib.hid (show (w2.heap.size : Nat) ≠ g from by have := hr.lt.1; have : w2.heap.size < w0.heap.size := (World.ownsRow.lt HO0.out _ rfl).2; omega)
        clear hr hfk hb
        go_wp2_with fail
        go_loopw [46] (fun i wr => ∃ j : Nat, j ≤ n ∧ i = .int .i64 j ∧ wr.ownsRow w2.heap.size 45 2 (.slice (some ⟨w2.heap.size, 0, none⟩) n n) n (fl (upG n j X Y)) ∧ RowD wr w0.heap.size g n E ∧ Below w.heap.size w wr) (fun i _ => n - (intOf i).toNat)
        case atStart => exact ⟨0, Nat.zero_le _, rfl, HO3.out, HR3.out, HB3.out⟩
        case round =>
          obtain ⟨j, hj, rfl, hown, hrow, hbel⟩ := hrel
          have HB := Lib.hid hbel
          by_cases hlt : j < n
          · have c0 := hrow.cell j hlt
            have fk := HFK.out j hlt
            have hxy := HXY.out j hlt
            have i1 := FN_toInt fk.1 (by omega)
            have i2 := FN_toInt fk.2 (by omega)
            have c1 : wr.cell? ⟨w2.heap.size, j * 2, none⟩ = some (.int .i64 (gre (upG n j X Y) j)) := by
              rw [hown.cellAt (j * 2) (by omega)]
              exact fl_re _ j (by rw [upG_length]; omega)
            have c2 : wr.cell? ⟨w2.heap.size, j * 2 + 1, none⟩ = some (.int .i64 (gim (upG n j X Y) j)) := by
              rw [hown.cellAt (j * 2 + 1) (by omega)]
              exact fl_im _ j (by rw [upG_length]; omega)
            rw [upG_re n j X Y j hlt, if_neg (Nat.lt_irrefl _)] at c1
            rw [upG_im n j X Y j hlt, if_neg (Nat.lt_irrefl _)] at c2
            have f1 := hown.frozenAt (j * 2)
            have f2 := hown.frozenAt (j * 2 + 1)
            have hs := hown.stored (j * 2) (.int .i64 (X j))
            have hs2 := hs.1.stored (j * 2 + 1) (.int .i64 (Y j))
            have hrd := (hrow.grown hs.2 HNE.out.symm).grown hs2.2 HNE.out.symm
            have ho2 := hs2.1
            rw [fl_set2 _ j (by rw [upG_length]; exact hlt), upG_set n j X Y hlt] at ho2
            obtain ⟨x, hx⟩ : ∃ x, x = X j := ⟨_, rfl⟩
            obtain ⟨y, hy⟩ : ∃ y, y = Y j := ⟨_, rfl⟩
            obtain ⟨p1, hp1⟩ : ∃ p, p = (E j).1 := ⟨_, rfl⟩
            obtain ⟨p2, hp2⟩ : ∃ p, p = (E j).2 := ⟨_, rfl⟩
            rw [← hx, ← hy] at hrd ho2
            rw [← hp1, ← hp2] at c0
            rw [← hp1, ← hx] at i1
            rw [← hp2, ← hy] at i2
            have hv1 := fun w => run_convert_float_int (P := Try.prog) w 94 3 .f64 .i64 p1 x rfl Try.underlying3 i1
            have hv2 := fun w => run_convert_float_int (P := Try.prog) w 94 3 .f64 .i64 p2 y rfl Try.underlying3 i2
            have HRD := Lib.hid hrd
            have HO2 := Lib.hid ho2
            have h0 : (0 : Int) ≤ (j : Int) := by omega
            have h1 : (j : Int) < (n : Int) := by omega
            clear fk hxy i1 i2 hs hs2 hrd ho2 hx hy hp1 hp2 hown hrow hbel
            go_wp2_with fail
            go_roundw
            case rel => exact ⟨j + 1, by omega, by go_num, HO2.out, HRD.out, belows (belows HB.out HLE.out _) HLE.out _⟩
            case measure => simp [intOf]; omega
          · obtain rfl : j = n := by omega
            have hO : OwnG wr w.heap.size (.slice (some ⟨w2.heap.size, 0, none⟩) j j) L := by
              have h := rowMono hown HLE.out
              rw [upG_all] at h
              rw [HL.out.1]
              unfold OwnG
              rw [genG_length]
              exact h
            have HOG := Lib.hid hO
            have HV := Lib.hid (listIfValid_any _ L wr hO.is)
            rw [← HL.out.2.2] at HV
            clear hO hown hrow hbel
            go_wp2_with fail
            refine (HV.out).mono ?_
            rintro e w4 ⟨rfl, hb⟩
            cases q with
            | true =>
              rw [if_pos rfl]
              have HE := Lib.hid (show L2 = L by rw [HL.out.2.1, ← HL.out.2.2]; rfl)
              have HOG1 := Lib.hid (HOG.out.below hb)
              have HB4 := Lib.hid (joins HB.out hb)
              clear hb
              go_wp2_with fail
              go_returns
              refine ⟨_, rfl, ?_, HB4.out⟩
              rw [HE.out]
              exact HOG1.out
            | false =>
              rw [if_neg Bool.false_ne_true]
              have HE := Lib.hid (show L2 = [] by rw [HL.out.2.1, ← HL.out.2.2]; rfl)
              have HB4 := Lib.hid (joins HB.out hb)
              clear hb
              go_wp2_with fail
              go_returns
              refine ⟨_, rfl, ?_, HB4.out⟩
              rw [HE.out]
              exact OwnG.nil _ _
      · have e1 : twOk a b = false := by unfold twOk; rw [h1, h2, decide_eq_false hab]; rfl
        rw [e1, Bool.false_and, if_neg Bool.false_ne_true]
        obtain ⟨n, hn⟩ : ∃ n, n = a.length := ⟨_, rfl⟩
        obtain ⟨m, hm⟩ : ∃ n, n = b.length := ⟨_, rfl⟩
        rw [← hn] at HS1 la hab ⊢
        rw [← hm] at HS2 lb hab ⊢
        have hne : ((n : Int) = (m : Int)) = False := by simp; omega
        clear hF hXY e1 h1 h2 hva hvb hn hm
        go_enter Try.func43, Try.ntmps43
        go_wp2_with fail
        refine (HS1.out).mono ?_
        rintro e w1 ⟨hb, ⟨_, g1, rfl, hr⟩ | ⟨h, _⟩⟩
        case inr => cases h
        have HB1 := Lib.hid hb
        clear hb hr
        go_wp2_with fail
        refine (HS2.out _ HB1.out).mono ?_
        rintro e w2 ⟨hb, ⟨_, g2, rfl, hr⟩ | ⟨h, _⟩⟩
        case inr => cases h
        have HB2 := Lib.hid (joins HB1.out hb)
        clear hb hr
        go_wp2_with fail
        go_returns
        exact ⟨_, rfl, OwnG.nil _ _, HB2.out⟩

set_option maxRecDepth 100000 in
set_option maxHeartbeats 1000000 in
theorem iconvolveOf (va vb : Value) (a b : List (Int × Int)) (w : World) (hva : IG w va a) (hvb : IG w vb b) : Calls Try.prog 15 #[va, vb] w (MakesGB w (cvA a b) (cvOk a b)) := by
  have HP := Lib.hid (productSums_convolved va vb a b (fun u => sumN (cvX a b u) a.length) (fun u => sumN (cvY a b u) a.length) w hva hvb
    (fun ht g1 g2 B1 B2 C D w' r1 r2 z1 z2 => convolved_any g1 g2 _ B1 B2 C D a b ht rfl w' r1 r2 z1 z2)
    (fun ht u hu => by
      have hl := (tfOk_len (twOk_parts ht).1).2
      have h1 := sumT_le (cvX a b u) a.length hl (fun x hx => (cv_le ht u x hu hx).1) a.length (Nat.le_refl _)
      have h2 := sumT_le (cvY a b u) a.length hl (fun x hx => (cv_le ht u x hu hx).2) a.length (Nat.le_refl _)
      exact ⟨by omega, by omega⟩))
  have e1 : cvOk a b = (twOk a b && goodL (genG a.length (fun u => sumN (cvX a b u) a.length) (fun u => sumN (cvY a b u) a.length))) := rfl
  have e2 : cvA a b = if (twOk a b && goodL (genG a.length (fun u => sumN (cvX a b u) a.length) (fun u => sumN (cvY a b u) a.length))) then genG a.length (fun u => sumN (cvX a b u) a.length) (fun u => sumN (cvY a b u) a.length) else [] := rfl
  rw [← e2, ← e1] at HP
  obtain ⟨L, hL⟩ : ∃ L, L = cvA a b := ⟨_, rfl⟩
  obtain ⟨q, hq⟩ : ∃ q, q = cvOk a b := ⟨_, rfl⟩
  rw [← hL, ← hq] at HP ⊢
  clear e1 e2 hL hq hva hvb
  go_enter Try.func15, Try.ntmps15
  go_wp2_with fail
  refine (HP.out).mono ?_
  rintro e w1 ⟨v, rfl, ho, hb⟩
  have HO := Lib.hid ho
  have HB := Lib.hid hb
  clear ho hb
  go_wp2_with fail
  go_returns
  exact ⟨_, rfl, HO.out, HB.out⟩
set_option maxRecDepth 100000 in
set_option maxHeartbeats 1000000 in
theorem icorrelateOf (va vb : Value) (a b : List (Int × Int)) (w : World) (hva : IG w va a) (hvb : IG w vb b) : Calls Try.prog 19 #[va, vb] w (MakesGB w (crA2 a b) (crOk2 a b)) := by
  have HP := Lib.hid (productSums_correlated va vb a b (fun u => sumN (crX a b u) a.length) (fun u => sumN (crY a b u) a.length) w hva hvb
    (fun ht g1 g2 B1 B2 C D w' r1 r2 z1 z2 => correlated_any g1 g2 _ B1 B2 C D a b ht rfl w' r1 r2 z1 z2)
    (fun ht u hu => by
      have hl := (tfOk_len (twOk_parts ht).1).2
      have h1 := sumT_le (crX a b u) a.length hl (fun x hx => (cr_le ht u x hu hx).1) a.length (Nat.le_refl _)
      have h2 := sumT_le (crY a b u) a.length hl (fun x hx => (cr_le ht u x hu hx).2) a.length (Nat.le_refl _)
      exact ⟨by omega, by omega⟩))
  have e1 : crOk2 a b = (twOk a b && goodL (genG a.length (fun u => sumN (crX a b u) a.length) (fun u => sumN (crY a b u) a.length))) := rfl
  have e2 : crA2 a b = if (twOk a b && goodL (genG a.length (fun u => sumN (crX a b u) a.length) (fun u => sumN (crY a b u) a.length))) then genG a.length (fun u => sumN (crX a b u) a.length) (fun u => sumN (crY a b u) a.length) else [] := rfl
  rw [← e2, ← e1] at HP
  obtain ⟨L, hL⟩ : ∃ L, L = crA2 a b := ⟨_, rfl⟩
  obtain ⟨q, hq⟩ : ∃ q, q = crOk2 a b := ⟨_, rfl⟩
  rw [← hL, ← hq] at HP ⊢
  clear e1 e2 hL hq hva hvb
  go_enter Try.func19, Try.ntmps19
  go_wp2_with fail
  refine (HP.out).mono ?_
  rintro e w1 ⟨v, rfl, ho, hb⟩
  have HO := Lib.hid ho
  have HB := Lib.hid hb
  clear ho hb
  go_wp2_with fail
  go_returns
  exact ⟨_, rfl, HO.out, HB.out⟩
end Go.Proofs.Ytgibdndckoapfab
