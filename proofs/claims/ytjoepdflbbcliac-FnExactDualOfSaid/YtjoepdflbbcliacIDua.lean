/- The program's DualOf. -/
import Derived.Test.YtjoepdflbbcliacIQs
import Derived.Test.YtjoepdflbbcliacDuaM
import Derived.Test.YtjoepdflbbcliacUpI
namespace Go.Proofs.Ytjoepdflbbcliac
set_option maxRecDepth 100000
open Go.RowKit

set_option maxHeartbeats 1000000 in
theorem rootOf_any (n : Nat) (h : tfSz n = true) (w : World) : Calls Try.prog 69 #[.int .i64 n] w (Pure w (.complex .f32 (f32of (rtN n)) 0)) := by
  rcases tfSz_cases h with rfl | rfl | rfl
  all_goals
    clear h
    go_enter Try.func69, Try.ntmps69
    go_wp2
    go_returns
    exact ⟨rfl, rfl⟩

set_option maxRecDepth 100000 in
set_option maxHeartbeats 2000000 in
theorem phaseTimes_any (r x y : Int) (hr : r = 1 ∨ r = 2 ∨ r = 4) (b1 b2 : Nat) (h1 : FK .f32 b1 x) (h2 : FK .f32 b2 y) (w : World) :
    Calls Try.prog 68 #[.complex .f32 b1 b2, .complex .f32 (f32of r) 0] w (Ret w (.tuple #[.int .i64 (if duK r x y < 4 then (duK r x y : Int) else 0), .bool (decide (duK r x y < 4))])) := by
  have hfr : FK .f32 (f32of r) r := by
    rcases hr with rfl | rfl | rfl
    · exact FN_ofInt .f32 1 (by decide)
    · exact FN_ofInt .f32 2 (by decide)
    · exact FN_ofInt .f32 4 (by decide)
  have hf0 : FK .f32 0 0 := FN_ofInt .f32 0 (by decide)
  have HM := Lib.hid (fun (k : Nat) (hk : k < 4) => show ∃ re im, (∀ w t, (binOp .mul t (.complex .f32 (f32of (vx (k : Int))) (f32of (vy (k : Int)))) (.complex .f32 (f32of r) 0)).run Try.prog w = .ok (.complex .f32 re im) w) ∧
      (∀ w t, (binOp .eql t (.complex .f32 re im) (.complex .f32 b1 b2)).run Try.prog w = .ok (.bool (duHit r x y k)) w) from by
    have hu := FK_unit (k : Int) (by omega) (by omega)
    have hb : ((vx (k : Int)).natAbs ≤ 1 ∧ (vy (k : Int)).natAbs ≤ 1) ∧ (vx (k : Int) * r).natAbs ≤ 4 ∧ (vy (k : Int) * r).natAbs ≤ 4 := by
      rcases (show k = 0 ∨ k = 1 ∨ k = 2 ∨ k = 3 by omega) with rfl | rfl | rfl | rfl <;> rcases hr with rfl | rfl | rfl <;> decide
    have e1 : vx (k : Int) * r - vy (k : Int) * 0 = r * vx (k : Int) := by rw [Int.mul_zero, Int.sub_zero, Int.mul_comm]
    have e2 : vx (k : Int) * 0 + vy (k : Int) * r = r * vy (k : Int) := by rw [Int.mul_zero, Int.zero_add, Int.mul_comm]
    have hr4 : r.natAbs ≤ 4 := by rcases hr with rfl | rfl | rfl <;> decide
    obtain ⟨re, im, hm, f1, f2⟩ := FC_mul32 hu.1 hu.2 hfr hf0 (by omega) (by omega) (by omega) (by decide) (by omega) (by rw [Int.mul_zero]; decide) (by rw [Int.mul_zero]; decide) (by omega) (by rw [Int.mul_zero, Int.sub_zero]; omega) (by rw [Int.mul_zero, Int.zero_add]; omega)
    rw [e1] at f1
    rw [e2] at f2
    refine ⟨re, im, fun w t => run_complex_mul32 (P := Try.prog) w t _ _ _ _ _ _ hm, fun w t => ?_⟩
    rw [run_eql_complex, FN_eq f1 h1, FN_eq f2 h2]
    rfl)
  have HV := Lib.hid (fun (k : Nat) (hk : k < 4) w => valueOf_any (k : Int) (by omega) (by omega) w)
  have HH := Lib.hid (fun k hk h h2 => @duK_hit r x y k hk h h2)
  have HN := Lib.hid (@duK_none r x y)
  have HX := Lib.hid (fun k h h2 => @duNo_next r x y k h h2)
  obtain ⟨S, hS⟩ : ∃ S, S = f32of r := ⟨_, rfl⟩
  rw [← hS] at HM ⊢
  obtain ⟨A, hA⟩ : ∃ A : Int, A = if duK r x y < 4 then (duK r x y : Int) else 0 := ⟨_, rfl⟩
  obtain ⟨O, hO⟩ : ∃ A, A = decide (duK r x y < 4) := ⟨_, rfl⟩
  rw [← hA, ← hO]
  have HAO := Lib.hid (And.intro hA hO)
  clear h1 h2 hfr hf0 hS hr hA hO
  go_enter Try.func68, Try.ntmps68
  go_wp2_with fail
  go_loopw [7] (fun i wr => ∃ k : Nat, k ≤ 4 ∧ i = .int .i64 k ∧ duNo r x y k = true ∧ Below w.heap.size w wr) (fun i _ => 4 - (intOf i).toNat)
  case atStart => exact ⟨0, by omega, rfl, rfl, Below.refl _ _⟩
  case round =>
    obtain ⟨k, hk, rfl, hno, hbel⟩ := hrel
    have HB := Lib.hid hbel
    have HNO := Lib.hid hno
    clear hbel hno
    by_cases hlt : k < 4
    · have h0 : (0 : Int) ≤ (k : Int) := by omega
      have h1 : (k : Int) < 4 := by omega
      obtain ⟨re, im, hm, hq⟩ := HM.out k hlt
      have HVk := Lib.hid (HV.out k hlt)
      obtain ⟨u, hu⟩ : ∃ u, u = f32of (vx (k : Int)) := ⟨_, rfl⟩
      obtain ⟨v, hv⟩ : ∃ u, u = f32of (vy (k : Int)) := ⟨_, rfl⟩
      rw [← hu, ← hv] at HVk hm
      have HH1 := Lib.hid (HH.out k hlt HNO.out)
      have HX1 := Lib.hid (HX.out k HNO.out)
      obtain ⟨c, hc⟩ : ∃ c, c = duHit r x y k := ⟨_, rfl⟩
      rw [← hc] at HH1 HX1 hq
      clear hu hv hc
      cases c with
      | true =>
        have HK := Lib.hid (HH1.out (by rfl))
        have HA1 := Lib.hid (show A = (k : Int) ∧ O = true from by have := HAO.out; rw [HK.out, if_pos hlt, decide_eq_true hlt] at this; exact this)
        go_wp2_with fail
        refine (HVk.out _).mono ?_
        rintro e w2 ⟨rfl, hb⟩
        have HB2 := Lib.hid (joins HB.out hb)
        clear hb
        go_wp2_with fail
        go_returns
        exact ⟨by rw [HA1.out.1, HA1.out.2]; rfl, HB2.out⟩
      | false =>
        go_wp2_with fail
        refine (HVk.out _).mono ?_
        rintro e w2 ⟨rfl, hb⟩
        have HB2 := Lib.hid (joins HB.out hb)
        clear hb
        go_wp2_with fail
        go_roundw
        case rel => exact ⟨k + 1, by omega, by go_num, HX1.out trivial, HB2.out⟩
        case measure => simp [intOf]; omega
    · obtain rfl : k = 4 := by omega
      have HA1 := Lib.hid (show A = 0 ∧ O = false from by have := HAO.out; rw [HN.out HNO.out] at this; exact this)
      go_wp2_with fail
      go_returns
      exact ⟨by rw [HA1.out.1, HA1.out.2]; rfl, HB.out⟩

set_option maxRecDepth 100000 in
set_option maxHeartbeats 4000000 in
theorem dual_any (s : List Int) (h : sqTf s = true) (g B : Nat) (w : World) (hr : RowC w B g s.length (phC2 s)) :
    Calls Try.prog 43 #[.slice (some ⟨g, 0, none⟩) s.length s.length] w (MakesB w (if duB s then duL s else []) (duB s)) := by
  obtain ⟨i0, hi, hz0, hz1, hz2⟩ := info_parts infoInt
  have HT := Lib.hid (fun w' (hb : Below w.heap.size w w') => seqTransform_any s h g B w' (hr.below hb))
  have HRT := Lib.hid (rootOf_any s.length (Bool.and_eq_true_iff.1 h).2)
  have hr3 := rtN_in (Bool.and_eq_true_iff.1 h).2
  have HPT := Lib.hid (fun x y b1 b2 h1 h2 w => phaseTimes_any (rtN s.length) x y hr3 b1 b2 h1 h2 w)
  have HTL := Lib.hid (fun p => tq_le h p)
  have HDP := Lib.hid (show ∀ p, duP s p = duK (rtN s.length) (drX 1 (vlL s) s.length p) (drY 1 (vlL s) s.length p) from fun p => rfl)
  have HTS := Lib.hid (fun k => duTo_succ s k)
  have HNO := Lib.hid (fun k hk hh => @du_no s k hk hh)
  have HDB := Lib.hid (show duB s = duTo s s.length from rfl)
  have HDL := Lib.hid (show duL s = gen s.length (fun p => (duP s p : Int)) from rfl)
  have hlen := sqTf_len h
  obtain ⟨X, hX⟩ : ∃ X, X = drX 1 (vlL s) s.length := ⟨_, rfl⟩
  obtain ⟨Y, hY⟩ : ∃ X, X = drY 1 (vlL s) s.length := ⟨_, rfl⟩
  rw [← hX, ← hY] at HT HTL HDP
  obtain ⟨P, hP⟩ : ∃ P : Nat → Nat, P = duP s := ⟨_, rfl⟩
  rw [← hP] at HDP HTS HNO HDL
  obtain ⟨T, hT⟩ : ∃ T : Nat → Int, T = fun p => (P p : Int) := ⟨_, rfl⟩
  rw [← hT] at HDL
  have HTP := Lib.hid (show ∀ p, T p = (P p : Int) from fun p => by rw [hT])
  obtain ⟨D, hD⟩ : ∃ D, D = duL s := ⟨_, rfl⟩
  rw [← hD] at HDL ⊢
  obtain ⟨q, hq⟩ : ∃ q, q = duB s := ⟨_, rfl⟩
  rw [← hq] at HNO HDB ⊢
  obtain ⟨n, hn⟩ : ∃ n, n = s.length := ⟨_, rfl⟩
  rw [← hn] at HT HRT HPT HDP HNO HDB HDL hlen ⊢
  obtain ⟨r, hrr⟩ : ∃ r, r = rtN n := ⟨_, rfl⟩
  rw [← hrr] at HRT HPT HDP
  obtain ⟨R, hR⟩ : ∃ R, R = f32of r := ⟨_, rfl⟩
  rw [← hR] at HRT HPT
  obtain ⟨L, hL⟩ : ∃ L, L = (if q then D else []) := ⟨_, rfl⟩
  rw [← hL]
  have HLL := Lib.hid hL
  obtain ⟨hl1, hl2⟩ := hlen
  clear hr h hX hY hP hT hD hq hn hrr hR hr3 hL
  go_enter Try.func43, Try.ntmps43
  go_wp2_with (at_make; refine wpList_make_full _ rfl _ _ 31 rfl w.heap.size 3 i0 (.int .i64 0) 1 Try.underlying31 hi hz0 hz1 _ _ _ _ n rfl rfl rfl rfl ?b2 ?b3 (Nat.le_refl _) ?_)
  case b2 => rw [hz2]; omega
  case b3 => unfold maxLen; omega
  intro w0 hown0 hgrow0
  rw [made_zeros] at hown0
  have hb0 : Below w.heap.size w w0 := (Below.refl _ _).grown hgrow0 (Nat.le_refl _) (fun k h => by cases h)
  have hrow0 : w0.ownsRow w.heap.size 3 1 (.slice (some ⟨w.heap.size, 0, none⟩) n n) n ((gen n (upI 0 T)).map (Value.int .i64)) := by
    rw [upI_zero]; exact hown0
  have HB0 := Lib.hid hb0
  have HR0 := Lib.hid hrow0
  clear hown0 hgrow0 hrow0 hb0 hi hz0 hz1 hz2
  go_wp2_with fail
  refine (HT.out _ HB0.out).mono ?_
  rintro e w1 ⟨g2, E, rfl, hr2, hf, hb⟩
  have hrow1 := rowBelow HR0.out hb
  have hne : g2 ≠ w.heap.size := by
    rcases hrow1.2 with ⟨h0, _⟩ | ⟨f1, c1, cur1, hv1, _, hh1, _⟩
    · cases h0
    · rcases hr2.2 with ⟨h0, _⟩ | ⟨f2, c2, cur2, hv2, _, hh2, _⟩
      · cases h0
      · simp only [Value.slice.injEq, Option.some.injEq, Addr.mk.injEq] at hv1 hv2
        intro e
        rw [← hv1.1.1] at hh1
        rw [← hv2.1.1, e] at hh2
        rw [hh1] at hh2
        simp at hh2
  have HB1 := Lib.hid (joins HB0.out hb)
  have HR1 := Lib.hid hrow1
  have HC1 := Lib.hid hr2
  have HF := Lib.hid hf
  have HNE := Lib.hid hne
  clear hr2 hf hb hrow1 hne
  go_wp2_with fail
  go_loopw [15] (fun i wr => ∃ k : Nat, k ≤ n ∧ i = .int .i64 k ∧ duTo s k = true ∧ wr.ownsRow w.heap.size 3 1 (.slice (some ⟨w.heap.size, 0, none⟩) n n) n ((gen n (upI k T)).map (Value.int .i64)) ∧ RowC wr 0 g2 n E ∧ Below w.heap.size w wr) (fun i _ => n - (intOf i).toNat)
  case atStart => exact ⟨0, Nat.zero_le _, rfl, rfl, HR1.out, HC1.out, HB1.out⟩
  case round =>
    obtain ⟨k, hk, rfl, hto, hrow, hcx, hbel⟩ := hrel
    have HTO := Lib.hid hto
    have HRW := Lib.hid hrow
    have HCX := Lib.hid hcx
    have HB := Lib.hid hbel
    clear hto hrow hcx hbel
    by_cases hltk : k < n
    · have h0 : (0 : Int) ≤ (k : Int) := by omega
      have h1 : (k : Int) < (n : Int) := by omega
      have c1 := HCX.out.cell k hltk
      have hfk := HF.out k hltk
      have htl := HTL.out k
      have hdp := HDP.out k
      obtain ⟨x, hx⟩ : ∃ x, x = X k := ⟨_, rfl⟩
      obtain ⟨y, hy⟩ : ∃ y, y = Y k := ⟨_, rfl⟩
      rw [← hx, ← hy] at hfk htl hdp
      have HPk := Lib.hid (fun w => HPT.out x y (E k).1 (E k).2 (hfk.1.1 (by omega)) (hfk.2.1 (by omega)) w)
      rw [← hdp] at HPk
      obtain ⟨b1, hb1⟩ : ∃ b, b = (E k).1 := ⟨_, rfl⟩
      obtain ⟨b2, hb2⟩ : ∃ b, b = (E k).2 := ⟨_, rfl⟩
      rw [← hb1, ← hb2] at c1 HPk
      have hts := HTS.out k
      rw [HTO.out, Bool.true_and] at hts
      have HN1 := Lib.hid (HNO.out k hltk)
      have htp := HTP.out k
      have hset := upI_set n k T hltk
      rw [htp] at hset
      obtain ⟨p, hp⟩ : ∃ p, p = P k := ⟨_, rfl⟩
      rw [← hp] at HPk hts HN1 hset
      have HTS1 := Lib.hid hts
      have HST := Lib.hid hset
      clear hx hy hfk htl hdp hb1 hb2 hts htp hset hp
      by_cases h4 : p < 4
      · rw [if_pos h4, decide_eq_true h4] at HPk
        rw [decide_eq_true h4] at HTS1
        go_wp2_with fail
        refine (HRT.out _).mono ?_
        rintro e w2 ⟨rfl, rfl⟩
        go_wp2_with fail
        refine (HPk.out _).mono ?_
        rintro e w3 ⟨rfl, hb3⟩
        have hR3 := rowBelow HRW.out hb3
        have d1 := hR3.cellAt k (by omega)
        rw [show ((gen n (upI k T)).map (Value.int .i64))[k]? = some (.int .i64 0) by simp [gen, upI, hltk]] at d1
        have f1 := hR3.frozenAt k
        have HR3 := Lib.hid hR3
        have HC3 := Lib.hid (HCX.out.below hb3)
        have HB3 := Lib.hid (joins HB.out hb3)
        clear hR3 hb3 c1
        go_wp2_with fail
        go_roundw
        case rel =>
          have hs := (World.ownsRow.stored HR3.out k (.int .i64 (p : Int))).1
          rw [HST.out] at hs
          exact ⟨k + 1, by omega, by go_num, HTS1.out, hs, HC3.out.grown (grownSet (World.grownBy.refl _ _) _ _) HNE.out, belows HB3.out (Nat.le_refl _) _⟩
        case measure => simp [intOf]; omega
      · rw [if_neg h4, decide_eq_false h4] at HPk
        have HQ := Lib.hid (HN1.out h4)
        go_wp2_with fail
        refine (HRT.out _).mono ?_
        rintro e w2 ⟨rfl, rfl⟩
        go_wp2_with fail
        refine (HPk.out _).mono ?_
        rintro e w3 ⟨rfl, hb3⟩
        have HB3 := Lib.hid (joins HB.out hb3)
        clear hb3
        go_wp2_with fail
        go_returns
        exact ⟨_, by rw [HQ.out]; rfl, by rw [HLL.out, HQ.out, if_neg Bool.false_ne_true]; exact World.ownsRow_nil _ _ _ _, HB3.out⟩
    · obtain rfl : k = n := by omega
      have hq : q = true := by rw [HDB.out]; exact HTO.out
      have HQ := Lib.hid hq
      clear hq
      go_wp2_with fail
      go_returns
      refine ⟨_, by rw [HQ.out]; rfl, ?_, HB.out⟩
      rw [HLL.out, HQ.out, if_pos rfl, HDL.out]
      have := HRW.out
      rw [upI_all] at this
      unfold Own
      rw [gen_length]
      exact this

set_option maxRecDepth 100000 in
set_option maxHeartbeats 1000000 in
theorem idualOf (v : Value) (s : List Int) (w : World) (hv : IS w v s) (hl : s.length ≤ 1048576) : Calls Try.prog 21 #[v] w (MakesB w (duA s) (duOk s)) := by
  have HS := Lib.hid (signalOfPhases_any v s w hv hl)
  cases h : sqTf s with
  | false =>
    rw [h] at HS
    have e1 : duOk s = false := by unfold duOk; rw [h]; rfl
    have e2 : duA s = [] := by unfold duA; rw [e1]; rfl
    rw [e1, e2]
    clear h hv hl e1 e2
    go_enter Try.func21, Try.ntmps21
    go_wp2_with fail
    refine (HS.out).mono ?_
    rintro e w1 ⟨hb, ⟨h, _⟩ | ⟨_, rfl⟩⟩
    · cases h
    have HB := Lib.hid hb
    clear hb
    go_wp2_with fail
    go_returns
    exact ⟨_, rfl, World.ownsRow_nil _ _ _ _, HB.out⟩
  | true =>
    rw [h] at HS
    have HF := Lib.hid (fun g B w' hr => dual_any s h g B w' hr)
    have e1 : duOk s = duB s := by unfold duOk; rw [h]; rfl
    have e2 : duA s = (if duB s then duL s else []) := by unfold duA; rw [e1]
    rw [e1, e2]
    obtain ⟨q, hq⟩ : ∃ q, q = duB s := ⟨_, rfl⟩
    obtain ⟨L, hL⟩ : ∃ L, L = (if duB s then duL s else []) := ⟨_, rfl⟩
    rw [← hL, ← hq] at HF ⊢
    obtain ⟨D, hD⟩ : ∃ D, D = phC2 s := ⟨_, rfl⟩
    rw [← hD] at HS HF
    obtain ⟨n, hn⟩ : ∃ n, n = s.length := ⟨_, rfl⟩
    rw [← hn] at HS HF
    clear h hv hl hq hL hD hn e1 e2
    go_enter Try.func21, Try.ntmps21
    go_wp2_with fail
    refine (HS.out).mono ?_
    rintro e w1 ⟨hb, ⟨_, g, rfl, hr⟩ | ⟨h, _⟩⟩
    case inr => cases h
    have HB1 := Lib.hid hb
    have HR1 := Lib.hid hr
    clear hb hr
    go_wp2_with fail
    refine (HF.out _ _ _ HR1.out).mono ?_
    rintro e w2 ⟨v2, rfl, ho, hb⟩
    have HB2 := Lib.hid (joins HB1.out hb)
    have HO2 := Lib.hid (Own.mono ho HB1.out.size)
    clear hb ho
    go_wp2_with fail
    go_returns
    exact ⟨v2, rfl, HO2.out, HB2.out⟩
end Go.Proofs.Ytjoepdflbbcliac
