/- The program's nearest phase: turnedBack, nearest. -/
import Derived.Test.YtfjhocmnafdnfaaNrM
import Derived.Test.YtfjhocmnafdnfaaFxA
import Derived.Test.YtfjhocmnafdnfaaGau
import Derived.Test.YtfjhocmnafdnfaaSd
namespace Go.Proofs.Ytfjhocmnafdnfaa
set_option maxRecDepth 100000
open Go.RowKit

set_option maxRecDepth 100000 in
set_option maxHeartbeats 1000000 in
theorem turnedBack_any {b1 b2 : Nat} {x y : Int} (h1 : FK .f32 b1 x) (h2 : FK .f32 b2 y) (hx : -1000000 ≤ x ∧ x ≤ 1000000) (hy : -1000000 ≤ y ∧ y ≤ 1000000) (k : Nat) (hk : k < 4) :
    ∃ re im, FK .f32 re (nrX x y k) ∧ FK .f32 im (nrY x y k) ∧ ∀ w, Calls Try.prog 204 #[.complex .f32 b1 b2, .int .i64 k] w (Ret w (.complex .f32 re im)) := by
  have hu := FK_unit (k : Int) (by omega) (by omega)
  have hn := FK_neg32 hu.2
  have hv1 := vx_one (k : Int)
  have hv2 := vy_one (k : Int)
  have hm := nr_mul x y k hk
  have hle := nr_le hx hy k
  have hb : (x * vx (k : Int)).natAbs ≤ 1000000 ∧ (y * (-vy (k : Int))).natAbs ≤ 1000000 ∧ (x * (-vy (k : Int))).natAbs ≤ 1000000 ∧ (y * vx (k : Int)).natAbs ≤ 1000000 := by
    rcases four_cases hk with rfl | rfl | rfl | rfl <;> simp [vx, vy] <;> omega
  obtain ⟨re, im, e, f1, f2⟩ := FC_mul32 h1 h2 hu.1 hn (by omega) (by omega) (by omega) (by omega) (by omega) (by omega) (by omega) (by omega) (by rw [hm.1]; omega) (by rw [hm.2]; omega)
  rw [hm.1] at f1
  rw [hm.2] at f2
  refine ⟨re, im, f1, f2, fun w => ?_⟩
  have HM := fun w t => run_complex_mul32 (P := Try.prog) w t _ _ _ _ _ _ e
  have HV := Lib.hid (fun w => valueOf_any (k : Int) (by omega) (by omega) w)
  have HC := Lib.hid (conjugateValue_any (f32of (vx (k : Int))) (f32of (vy (k : Int))))
  obtain ⟨u, hu⟩ : ∃ u, u = f32of (vx (k : Int)) := ⟨_, rfl⟩
  obtain ⟨v, hv⟩ : ∃ u, u = f32of (vy (k : Int)) := ⟨_, rfl⟩
  rw [← hu, ← hv] at HV HC
  rw [← hu, ← hv] at HM
  obtain ⟨z, hz⟩ : ∃ z, z = f32neg v := ⟨_, rfl⟩
  rw [← hz] at HC HM
  clear hu hv hz h1 h2 hx hy hn hv1 hv2 hm hle hb e f1 f2
  go_enter Try.func204, Try.ntmps204
  go_wp2_with fail
  refine (HV.out _).mono ?_
  rintro e w1 ⟨rfl, hb⟩
  go_wp2_with (refine (HC.out _).mono ?_; rintro e w' ⟨rfl, rfl⟩)
  go_returns
  exact ⟨rfl, hb⟩

theorem cmp_lt (a b : Int) : (some (compare a b) == some Ordering.lt) = decide (a < b) := by
  by_cases h : a < b
  · rw [Int.compare_eq_lt.2 h, decide_eq_true h]; rfl
  · rw [decide_eq_false h]
    cases hc : compare a b with
    | lt => exact absurd (Int.compare_eq_lt.1 hc) h
    | eq => rfl
    | gt => rfl
theorem cmp_eq (a b : Int) : (some (compare a b) == some Ordering.eq) = decide (a = b) := by
  by_cases h : a = b
  · subst h
    rw [decide_eq_true rfl, Int.compare_eq_eq.2 rfl]; rfl
  · rw [decide_eq_false h]
    cases hc : compare a b with
    | eq => exact absurd (Int.compare_eq_eq.1 hc) h
    | lt => rfl
    | gt => rfl
theorem FN_lt {k : FloatKind} {a b : Nat} {x y : Int} (hx : FK k a x) (hy : FK k b y) : (k.format.order a b == some .lt) = decide (x < y) := by
  rw [FN_order hx hy]; exact cmp_lt x y
theorem FN_le {k : FloatKind} {a b : Nat} {x y : Int} (hx : FK k a x) (hy : FK k b y) : (k.format.order a b == some .lt || k.format.order a b == some .eq) = decide (x ≤ y) := by
  rw [FN_order hx hy, cmp_lt, cmp_eq]
  by_cases h : x < y
  · rw [decide_eq_true h, decide_eq_true (show x ≤ y by omega)]; rfl
  · rw [decide_eq_false h, Bool.false_or, decide_eq_decide]; omega
theorem nrHit_and (x y : Int) (k : Nat) : nrHit x y k = (decide (-nrX x y k < nrY x y k) && decide (nrY x y k ≤ nrX x y k)) := by
  unfold nrHit
  rw [Bool.decide_and]

end Go.Proofs.Ytfjhocmnafdnfaa
