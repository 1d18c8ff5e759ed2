/- The program's nearest phase: turnedBack, nearest. -/
import Derived.Test.YtoehehaeanepmabNrM
import Derived.Test.YtoehehaeanepmabFa
import Derived.Test.YtoehehaeanepmabGau
import Derived.Test.YtoehehaeanepmabSd
namespace Go.Proofs.Ytoehehaeanepmab
set_option maxRecDepth 100000
open Go.RowKit

set_option maxRecDepth 100000 in
set_option maxHeartbeats 1000000 in
theorem turnedBack_any {b1 b2 : Nat} {x y : Int} (h1 : FK .f32 b1 x) (h2 : FK .f32 b2 y) (hx : -1000000 ≤ x ∧ x ≤ 1000000) (hy : -1000000 ≤ y ∧ y ≤ 1000000) (k : Nat) (hk : k < 4) :
    ∃ re im, FK .f32 re (nrX x y k) ∧ FK .f32 im (nrY x y k) ∧ ∀ w, Calls Try.prog 88 #[.complex .f32 b1 b2, .int .i64 k] w (Ret w (.complex .f32 re im)) := by
  have hu := FK_unit (k : Int) (by omega) (by omega)
  have hn := FK_neg32 hu.2
  have hv1 := vx_one (k : Int)
  have hv2 := vy_one (k : Int)
  have hm := nr_mul x y k hk
  have hle := nr_le hx hy k
  have hb : (x * vx (k : Int)).natAbs ≤ 1000000 ∧ (y * (-vy (k : Int))).natAbs ≤ 1000000 ∧ (x * (-vy (k : Int))).natAbs ≤ 1000000 ∧ (y * vx (k : Int)).natAbs ≤ 1000000 := by
    rcases four_cases hk with rfl | rfl | rfl | rfl <;> simp [vx, vy] <;> omega
  obtain ⟨re, im, e, f1, f2⟩ := FC_mul32 h1 h2 hu.1 hn (by omega) (by omega) (by omega) (by omega) (by omega) (by omega) (by omega) (by omega) (by rw [hm.1]; omega) (by rw [hm.2]; omega)
  rw [hm.1] at f1
  rw [hm.2] at f2
  refine ⟨re, im, f1, f2, fun w => ?_⟩
  have HM := fun w t => run_complex_mul32 (P := Try.prog) w t _ _ _ _ _ _ e
  have HV := Lib.hid (fun w => valueOf_any (k : Int) (by omega) (by omega) w)
  have HC := Lib.hid (conjugateValue_any (f32of (vx (k : Int))) (f32of (vy (k : Int))))
  obtain ⟨u, hu⟩ : ∃ u, u = f32of (vx (k : Int)) := ⟨_, rfl⟩
  obtain ⟨v, hv⟩ : ∃ u, u = f32of (vy (k : Int)) := ⟨_, rfl⟩
  rw [← hu, ← hv] at HV HC
  rw [← hu, ← hv] at HM
  obtain ⟨z, hz⟩ : ∃ z, z = f32neg v := ⟨_, rfl⟩
  rw [← hz] at HC HM
  clear hu hv hz h1 h2 hx hy hn hv1 hv2 hm hle hb e f1 f2
  go_enter Try.func88, Try.ntmps88
  go_wp2_with fail
  refine (HV.out _).mono ?_
  rintro e w1 ⟨rfl, hb⟩
  go_wp2_with (refine (HC.out _).mono ?_; rintro e w' ⟨rfl, rfl⟩)
  go_returns
  exact ⟨rfl, hb⟩

theorem cmp_lt (a b : Int) : (some (compare a b) == some Ordering.lt) = decide (a < b) := by
  by_cases h : a < b
  · rw [Int.compare_eq_lt.2 h, decide_eq_true h]; rfl
  · rw [decide_eq_false h]
    cases hc : compare a b with
    | lt => exact absurd (Int.compare_eq_lt.1 hc) h
    | eq => rfl
    | gt => rfl
theorem cmp_eq (a b : Int) : (some (compare a b) == some Ordering.eq) = decide (a = b) := by
  by_cases h : a = b
  · subst h
    rw [decide_eq_true rfl, Int.compare_eq_eq.2 rfl]; rfl
  · rw [decide_eq_false h]
    cases hc : compare a b with
    | eq => exact absurd (Int.compare_eq_eq.1 hc) h
    | lt => rfl
    | gt => rfl
theorem FN_lt {k : FloatKind} {a b : Nat} {x y : Int} (hx : FK k a x) (hy : FK k b y) : (k.format.order a b == some .lt) = decide (x < y) := by
  rw [FN_order hx hy]; exact cmp_lt x y
theorem FN_le {k : FloatKind} {a b : Nat} {x y : Int} (hx : FK k a x) (hy : FK k b y) : (k.format.order a b == some .lt || k.format.order a b == some .eq) = decide (x ≤ y) := by
  rw [FN_order hx hy, cmp_lt, cmp_eq]
  by_cases h : x < y
  · rw [decide_eq_true h, decide_eq_true (show x ≤ y by omega)]; rfl
  · rw [decide_eq_false h, Bool.false_or, decide_eq_decide]; omega
theorem nrHit_and (x y : Int) (k : Nat) : nrHit x y k = (decide (-nrX x y k < nrY x y k) && decide (nrY x y k ≤ nrX x y k)) := by
  unfold nrHit
  rw [Bool.decide_and]

set_option maxRecDepth 100000 in
set_option maxHeartbeats 2000000 in
theorem nearest_any {b1 b2 : Nat} {x y : Int} (h1 : FK .f32 b1 x) (h2 : FK .f32 b2 y) (hx : -1000000 ≤ x ∧ x ≤ 1000000) (hy : -1000000 ≤ y ∧ y ≤ 1000000) (w : World) :
    Calls Try.prog 79 #[.complex .f32 b1 b2] w (Ret w (.tuple #[.int .i64 (nrV x y), .bool (nrB x y)])) := by
  have HT := Lib.hid (fun (k : Nat) (hk : k < 4) => show ∃ re im p q, (p && q) = nrHit x y k ∧ (FloatKind.f32.format.order (f32neg re) im == some .lt) = p ∧ (FloatKind.f32.format.order im re == some .lt || FloatKind.f32.format.order im re == some .eq) = q ∧
      ∀ w, Calls Try.prog 88 #[.complex .f32 b1 b2, .int .i64 k] w (Ret w (.complex .f32 re im)) from by
    obtain ⟨re, im, f1, f2, hc⟩ := turnedBack_any h1 h2 hx hy k hk
    exact ⟨re, im, _, _, (nrHit_and x y k).symm, FN_lt (FK_neg32 f1) f2, FN_le f2 f1, hc⟩)
  have HH := Lib.hid (fun k hk h h2 => @nrK_hit x y k hk h h2)
  have HN := Lib.hid (@nrK_none x y)
  have HX := Lib.hid (fun k h h2 => @nrNo_next x y k h h2)
  obtain ⟨A, hA⟩ : ∃ A : Int, A = nrV x y := ⟨_, rfl⟩
  obtain ⟨O, hO⟩ : ∃ A, A = nrB x y := ⟨_, rfl⟩
  rw [← hA, ← hO]
  have HAO := Lib.hid (And.intro hA hO)
  clear h1 h2 hx hy hA hO
  go_enter Try.func79, Try.ntmps79
  go_wp2_with fail
  go_loopw [6, 4, 5] (fun i _ _ wr => ∃ k : Nat, k ≤ 4 ∧ i = .int .i64 k ∧ nrNo x y k = true ∧ Below w.heap.size w wr) (fun i _ _ _ => 4 - (intOf i).toNat)
  case atStart => exact ⟨0, by omega, rfl, rfl, Below.refl _ _⟩
  case round =>
    obtain ⟨k, hk, rfl, hno, hbel⟩ := hrel
    have HB := Lib.hid hbel
    have HNO := Lib.hid hno
    clear hbel hno
    by_cases hlt : k < 4
    · have h0 : (0 : Int) ≤ (k : Int) := by omega
      have h1 : (k : Int) < 4 := by omega
      obtain ⟨re, im, p, q, hpq, hq1, hq2, hcall⟩ := HT.out k hlt
      have HC := Lib.hid hcall
      have HH1 := Lib.hid (HH.out k hlt HNO.out)
      have HX1 := Lib.hid (HX.out k HNO.out)
      rw [← hpq] at HH1 HX1
      have hng := fun w => run_neg32 w re
      have HNG := Lib.hid hng
      obtain ⟨ne, hne⟩ : ∃ ne, ne = f32neg re := ⟨_, rfl⟩
      rw [← hne] at hng hq1
      clear hpq hcall HNG hne
      cases p with
      | true =>
        cases q with
        | true =>
          have HK := Lib.hid (HH1.out rfl)
          have HA1 := Lib.hid (show A = (k : Int) ∧ O = true from by have := HAO.out; unfold nrV nrB at this; rw [HK.out, if_pos hlt, decide_eq_true hlt] at this; exact this)
          go_wp2_with fail
          refine (HC.out _).mono ?_
          rintro e w2 ⟨rfl, hb⟩
          have HB2 := Lib.hid (joins HB.out hb)
          clear hb
          go_wp2_with fail
          go_returns
          exact ⟨by rw [HA1.out.1, HA1.out.2]; rfl, HB2.out⟩
        | false =>
          go_wp2_with fail
          refine (HC.out _).mono ?_
          rintro e w2 ⟨rfl, hb⟩
          have HB2 := Lib.hid (joins HB.out hb)
          clear hb
          go_wp2_with fail
          go_roundw
          case rel => exact ⟨k + 1, by omega, by go_num, HX1.out rfl, HB2.out⟩
          case measure => simp [intOf]; omega
      | false =>
        go_wp2_with fail
        refine (HC.out _).mono ?_
        rintro e w2 ⟨rfl, hb⟩
        have HB2 := Lib.hid (joins HB.out hb)
        clear hb
        go_wp2_with fail
        go_roundw
        case rel => exact ⟨k + 1, by omega, by go_num, HX1.out rfl, HB2.out⟩
        case measure => simp [intOf]; omega
    · obtain rfl : k = 4 := by omega
      have HA1 := Lib.hid (show A = 0 ∧ O = false from by have := HAO.out; unfold nrV nrB at this; rw [HN.out HNO.out] at this; exact this)
      go_wp2_with fail
      go_returns
      exact ⟨by rw [HA1.out.1, HA1.out.2]; rfl, HB.out⟩
end Go.Proofs.Ytoehehaeanepmab
