/- Best turns: nearest phases of turned points, how many agree, the first of the greatest. -/
import Derived.Test.YtoehehaeanepmabMdP
namespace Go.Proofs.Ytoehehaeanepmab
set_option maxRecDepth 100000
open Go.RowKit

theorem nrK_one (x y : Int) (h : ¬ (x = 0 ∧ y = 0)) : nrV (-y) x = (nrV x y + 1) % 4 := by
  unfold nrV nrK nrHit
  simp only [nrX, nrY, decide_eq_true_eq]
  repeat' split
  all_goals omega
theorem nrB_one (x y : Int) : nrB (-y) x = nrB x y := by
  rw [nrB_iff, nrB_iff, Bool.eq_iff_iff]
  simp
  omega
theorem tn_one (x y : Int) : mulX x y (vx 1) (vy 1) = -y ∧ mulY x y (vx 1) (vy 1) = x := by simp [mulX, mulY, vx, vy]
theorem tn_zero (x y : Int) : mulX x y (vx 0) (vy 0) = x ∧ mulY x y (vx 0) (vy 0) = y := by simp [mulX, mulY, vx, vy]
theorem tn_two (x y : Int) : mulX x y (vx 2) (vy 2) = -x ∧ mulY x y (vx 2) (vy 2) = -y := by simp [mulX, mulY, vx, vy]
theorem tn_three (x y : Int) : mulX x y (vx 3) (vy 3) = y ∧ mulY x y (vx 3) (vy 3) = -x := by simp [mulX, mulY, vx, vy]
theorem nrV_turn (x y : Int) (k : Nat) (hk : k < 4) (h : ¬ (x = 0 ∧ y = 0)) : nrV (mulX x y (vx (k : Int)) (vy (k : Int))) (mulY x y (vx (k : Int)) (vy (k : Int))) = (nrV x y + k) % 4 := by
  have h0 := nrV_in x y
  have e1 := nrK_one x y h
  have e2 := nrK_one (-y) x (by omega)
  have e3 := nrK_one (-x) (-y) (by omega)
  rw [Int.neg_neg] at e3
  rcases four_cases hk with rfl | rfl | rfl | rfl
  · rw [show ((0 : Nat) : Int) = 0 from rfl, (tn_zero x y).1, (tn_zero x y).2]; omega
  · rw [show ((1 : Nat) : Int) = 1 from rfl, (tn_one x y).1, (tn_one x y).2]; omega
  · rw [show ((2 : Nat) : Int) = 2 from rfl, (tn_two x y).1, (tn_two x y).2]; omega
  · rw [show ((3 : Nat) : Int) = 3 from rfl, (tn_three x y).1, (tn_three x y).2]; omega
theorem nrB_turn (x y : Int) (k : Nat) (hk : k < 4) : nrB (mulX x y (vx (k : Int)) (vy (k : Int))) (mulY x y (vx (k : Int)) (vy (k : Int))) = nrB x y := by
  have e1 := nrB_one x y
  have e2 := nrB_one (-y) x
  have e3 := nrB_one (-x) (-y)
  rw [Int.neg_neg] at e3
  rcases four_cases hk with rfl | rfl | rfl | rfl
  · rw [show ((0 : Nat) : Int) = 0 from rfl, (tn_zero x y).1, (tn_zero x y).2]
  · rw [show ((1 : Nat) : Int) = 1 from rfl, (tn_one x y).1, (tn_one x y).2]; exact e1
  · rw [show ((2 : Nat) : Int) = 2 from rfl, (tn_two x y).1, (tn_two x y).2]; exact e2.trans e1
  · rw [show ((3 : Nat) : Int) = 3 from rfl, (tn_three x y).1, (tn_three x y).2]; exact e3.trans (e2.trans e1)
/-- The turned signal's points decided. -/
theorem dcN_turn (l : List (Int × Int)) (k : Nat) (hk : k < 4) : dcN (gre (tuL l k)) (gim (tuL l k)) (tuL l k).length = dcN (gre l) (gim l) l.length := by
  unfold dcN
  rw [tuL_len]
  have : ∀ i ∈ List.range l.length, nrB (gre (tuL l k) i) (gim (tuL l k) i) = nrB (gre l i) (gim l i) := fun i hi => by
    have hi2 := List.mem_range.1 hi
    unfold tuL
    rw [genG_re _ _ _ _ hi2, genG_im _ _ _ _ hi2]
    exact nrB_turn _ _ k hk
  rw [Bool.eq_iff_iff, List.all_eq_true, List.all_eq_true]
  constructor
  · intro h i hi; rw [← this i hi]; exact h i hi
  · intro h i hi; rw [this i hi]; exact h i hi
theorem dcN_at {X Y : Nat → Int} {n i : Nat} (h : dcN X Y n = true) (hi : i < n) : nrB (X i) (Y i) = true := by
  unfold dcN at h
  exact List.all_eq_true.1 h i (List.mem_range.2 hi)
theorem dcT_turn {l : List (Int × Int)} (h : dcN (gre l) (gim l) l.length = true) (k : Nat) (hk : k < 4) (i : Nat) (hi : i < l.length) : dcT (gre (tuL l k)) (gim (tuL l k)) i = (dcT (gre l) (gim l) i + k) % 4 := by
  have hb := dcN_at h hi
  unfold dcT tuL
  rw [genG_re _ _ _ _ hi, genG_im _ _ _ _ hi]
  refine nrV_turn _ _ k hk ?_
  unfold nrB at hb
  exact (nrK_iff _ _).1 (of_decide_eq_true hb)
theorem dcL_turn {l : List (Int × Int)} (h : dcN (gre l) (gim l) l.length = true) (k : Nat) (hk : k < 4) : dcL (gre (tuL l k)) (gim (tuL l k)) (tuL l k).length = gen l.length (fun i => (dcT (gre l) (gim l) i + k) % 4) := by
  unfold dcL
  rw [dcN_turn l k hk, h, tuL_len, if_pos rfl]
  exact gen_ext (fun i hi => dcT_turn h k hk i hi)
/-- How many of the first n numbers are c. -/
def cnN (F : Nat → Int) (c : Int) : Nat → Nat
  | 0 => 0
  | k + 1 => if F k = c then cnN F c k + 1 else cnN F c k
theorem cnN_le (F : Nat → Int) (c : Int) (k : Nat) : cnN F c k ≤ k := by
  induction k with
  | zero => exact Nat.le_refl _
  | succ k ih => rw [cnN]; split <;> omega
/-- The turn that takes a point's phase to the known one. -/
def tnF (l : List (Int × Int)) (known : List Int) (i : Nat) : Int := (known.getD i 0 - dcT (gre l) (gim l) i) % 4
theorem tnF_in (l : List (Int × Int)) (known : List Int) (i : Nat) : 0 ≤ tnF l known i ∧ tnF l known i ≤ 3 := by unfold tnF; omega
theorem tnF_iff (l : List (Int × Int)) (known : List Int) (i k : Nat) (hk : k < 4) (hx : 0 ≤ known.getD i 0 ∧ known.getD i 0 ≤ 3) : (dcT (gre l) (gim l) i + k) % 4 = known.getD i 0 ↔ tnF l known i = k := by
  have := nrV_in (gre l i) (gim l i)
  unfold tnF dcT
  omega
/-- The best and the most of the first k. -/
def btN (f : Nat → Nat) : Nat → Nat × Int
  | 0 => (0, -1)
  | k + 1 => if (btN f k).2 < (f k : Int) then (k, (f k : Int)) else btN f k
theorem btN_inv (f : Nat → Nat) (k : Nat) : (btN f (k + 1)).1 ≤ k ∧ (btN f (k + 1)).2 = (f (btN f (k + 1)).1 : Int) ∧ (∀ j, j ≤ k → (f j : Int) ≤ (btN f (k + 1)).2) ∧ ∀ j, j < (btN f (k + 1)).1 → (f j : Int) < (btN f (k + 1)).2 := by
  induction k with
  | zero =>
    have e : btN f 1 = (0, (f 0 : Int)) := by rw [btN]; exact if_pos (show (-1 : Int) < (f 0 : Int) by omega)
    rw [show (0 : Nat) + 1 = 1 from rfl, e]
    refine ⟨Nat.le_refl _, rfl, fun j hj => ?_, fun j hj => absurd hj (Nat.not_lt_zero _)⟩
    obtain rfl : j = 0 := by omega
    exact Int.le_refl _
  | succ k ih =>
    obtain ⟨h1, h2, h3, h4⟩ := ih
    by_cases h : (btN f (k + 1)).2 < (f (k + 1) : Int)
    · have e : btN f (k + 1 + 1) = (k + 1, (f (k + 1) : Int)) := by rw [btN, if_pos h]
      rw [e]
      refine ⟨Nat.le_refl _, rfl, fun j hj => ?_, fun j hj => ?_⟩
      · by_cases hj2 : j = k + 1
        · subst hj2; exact Int.le_refl _
        · have := h3 j (by omega); show (f j : Int) ≤ (f (k + 1) : Int); omega
      · have := h3 j (show j ≤ k by have hj3 : j < k + 1 := hj; omega)
        show (f j : Int) < (f (k + 1) : Int)
        omega
    · have e : btN f (k + 1 + 1) = btN f (k + 1) := by rw [btN, if_neg h]
      rw [e]
      refine ⟨by omega, h2, fun j hj => ?_, h4⟩
      by_cases hj2 : j = k + 1
      · subst hj2; omega
      · exact h3 j (by omega)
theorem btN_in (f : Nat → Nat) (k : Nat) : (btN f k).1 ≤ k ∧ -1 ≤ (btN f k).2 := by
  cases k with
  | zero => exact ⟨Nat.le_refl _, Int.le_refl _⟩
  | succ k =>
    have := btN_inv f k
    refine ⟨by omega, ?_⟩
    rw [this.2.1]
    omega
/-- The greatest of the first k + 1. -/
def mxF (f : Nat → Nat) : Nat → Int
  | 0 => (f 0 : Int)
  | k + 1 => if mxF f k < (f (k + 1) : Int) then (f (k + 1) : Int) else mxF f k
theorem mxF_eq (f : Nat → Nat) (k : Nat) : mxF f k = (btN f (k + 1)).2 := by
  induction k with
  | zero =>
    have e : btN f 1 = (0, (f 0 : Int)) := by rw [btN]; exact if_pos (show (-1 : Int) < (f 0 : Int) by omega)
    rw [show (0 : Nat) + 1 = 1 from rfl, e]
    rfl
  | succ k ih =>
    have e : btN f (k + 1 + 1) = if (btN f (k + 1)).2 < (f (k + 1) : Int) then (k + 1, (f (k + 1) : Int)) else btN f (k + 1) := rfl
    rw [mxF, ih, e]
    by_cases h : (btN f (k + 1)).2 < (f (k + 1) : Int)
    · rw [if_pos h, if_pos h]
    · rw [if_neg h, if_neg h]
def beOk (l : List (Int × Int)) (known : List Int) : Bool := sgOk l && isSeq known && decide (known.length = l.length) && dcN (gre l) (gim l) l.length
def beC (l : List (Int × Int)) (known : List Int) (n c : Nat) : Nat := cnN (tnF l known) (c : Int) n
def beV (l : List (Int × Int)) (known : List Int) : Int := if beOk l known then ((btN (beC l known l.length) 4).1 : Int) else 0
end Go.Proofs.Ytoehehaeanepmab
