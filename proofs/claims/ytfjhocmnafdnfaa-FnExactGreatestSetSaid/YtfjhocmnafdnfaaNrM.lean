/- Nearest phases: a point turned back, the first turn that brings it around 1. -/
import Derived.Test.YtfjhocmnafdnfaaTfM
import Derived.Test.YtfjhocmnafdnfaaSCvH
namespace Go.Proofs.Ytfjhocmnafdnfaa
set_option maxRecDepth 100000
open Go.RowKit

/-- A point times the conjugate of the value of a phase. -/
def nrX (x y : Int) : Nat → Int
  | 0 => x
  | 1 => y
  | 2 => -x
  | _ => -y
def nrY (x y : Int) : Nat → Int
  | 0 => y
  | 1 => -x
  | 2 => -y
  | _ => x
theorem four_cases {k : Nat} (h : k < 4) : k = 0 ∨ k = 1 ∨ k = 2 ∨ k = 3 := by omega
theorem nr_mul (x y : Int) (k : Nat) (h : k < 4) : x * vx (k : Int) - y * (-vy (k : Int)) = nrX x y k ∧ x * (-vy (k : Int)) + y * vx (k : Int) = nrY x y k := by
  rcases four_cases h with rfl | rfl | rfl | rfl <;> simp [vx, vy, nrX, nrY]
theorem nr_mulM (x y : Int) (k : Nat) (h : k < 4) : mulX x y (vx ((-(k : Int)) % 4)) (vy ((-(k : Int)) % 4)) = nrX x y k ∧ mulY x y (vx ((-(k : Int)) % 4)) (vy ((-(k : Int)) % 4)) = nrY x y k := by
  rcases four_cases h with rfl | rfl | rfl | rfl <;> simp [vx, vy, nrX, nrY, mulX, mulY]
theorem nr_le {x y : Int} {B : Int} (h1 : -B ≤ x ∧ x ≤ B) (h2 : -B ≤ y ∧ y ≤ B) (k : Nat) : (-B ≤ nrX x y k ∧ nrX x y k ≤ B) ∧ (-B ≤ nrY x y k ∧ nrY x y k ≤ B) := by
  match k with
  | 0 => simp only [nrX, nrY]; omega
  | 1 => simp only [nrX, nrY]; omega
  | 2 => simp only [nrX, nrY]; omega
  | _ + 3 => simp only [nrX, nrY]; omega
def nrHit (x y : Int) (k : Nat) : Bool := decide (-nrX x y k < nrY x y k ∧ nrY x y k ≤ nrX x y k)
def nrK (x y : Int) : Nat := if nrHit x y 0 then 0 else if nrHit x y 1 then 1 else if nrHit x y 2 then 2 else if nrHit x y 3 then 3 else 4
def nrNo (x y : Int) (k : Nat) : Bool := (List.range k).all (fun j => !nrHit x y j)
theorem nrNo_next {x y : Int} {k : Nat} (h : nrNo x y k = true) (h2 : nrHit x y k = false) : nrNo x y (k + 1) = true := by
  unfold nrNo at *
  rw [List.range_succ, List.all_append, h]
  simp [h2]
theorem nrNo_at {x y : Int} {k j : Nat} (h : nrNo x y k = true) (hj : j < k) : nrHit x y j = false := by
  unfold nrNo at h
  have := List.all_eq_true.1 h j (List.mem_range.2 hj)
  simpa using this
theorem nrK_hit {x y : Int} {k : Nat} (hk : k < 4) (h : nrNo x y k = true) (h2 : nrHit x y k = true) : nrK x y = k := by
  unfold nrK
  rcases four_cases hk with rfl | rfl | rfl | rfl
  · rw [if_pos h2]
  · rw [nrNo_at h (show 0 < 1 by omega), if_neg Bool.false_ne_true, if_pos h2]
  · rw [nrNo_at h (show 0 < 2 by omega), nrNo_at h (show 1 < 2 by omega), if_neg Bool.false_ne_true, if_neg Bool.false_ne_true, if_pos h2]
  · rw [nrNo_at h (show 0 < 3 by omega), nrNo_at h (show 1 < 3 by omega), nrNo_at h (show 2 < 3 by omega), if_neg Bool.false_ne_true, if_neg Bool.false_ne_true, if_neg Bool.false_ne_true, if_pos h2]
theorem nrK_none {x y : Int} (h : nrNo x y 4 = true) : nrK x y = 4 := by
  unfold nrK
  rw [nrNo_at h (show 0 < 4 by omega), nrNo_at h (show 1 < 4 by omega), nrNo_at h (show 2 < 4 by omega), nrNo_at h (show 3 < 4 by omega), if_neg Bool.false_ne_true, if_neg Bool.false_ne_true, if_neg Bool.false_ne_true, if_neg Bool.false_ne_true]
theorem nrK_lt {x y : Int} (h : ¬ (x = 0 ∧ y = 0)) : nrK x y < 4 := by
  unfold nrK nrHit
  simp only [nrX, nrY, decide_eq_true_eq]
  split
  · omega
  · split
    · omega
    · split
      · omega
      · split
        · omega
        · omega
theorem nrK_zero : nrK 0 0 = 4 := by decide
theorem nrK_iff (x y : Int) : nrK x y < 4 ↔ ¬ (x = 0 ∧ y = 0) := by
  constructor
  · rintro h ⟨rfl, rfl⟩
    rw [nrK_zero] at h
    omega
  · exact nrK_lt
theorem nrK_le (x y : Int) : nrK x y ≤ 4 := by
  unfold nrK
  split
  · omega
  · split
    · omega
    · split
      · omega
      · split <;> omega
/-- What the first result says. -/
def nrV (x y : Int) : Int := if nrK x y < 4 then (nrK x y : Int) else 0
def nrB (x y : Int) : Bool := decide (nrK x y < 4)
theorem nrV_in (x y : Int) : 0 ≤ nrV x y ∧ nrV x y ≤ 3 := by unfold nrV; split <;> omega
theorem nrB_zero : nrB 0 0 = false := by decide
theorem nrB_of {x y : Int} (h : ¬ (x = 0 ∧ y = 0)) : nrB x y = true := decide_eq_true (nrK_lt h)
theorem nrB_iff (x y : Int) : nrB x y = !(decide (x = 0) && decide (y = 0)) := by
  unfold nrB
  rw [Bool.eq_iff_iff, decide_eq_true_eq, nrK_iff]
  by_cases h1 : x = 0 <;> by_cases h2 : y = 0 <;> simp [h1, h2]
def neOk (x y : Int) : Bool := good x y && nrB x y
def neV (x y : Int) : Int := if neOk x y then nrV x y else 0

/-! ### signals of the modem, points decided -/
def sgOk (l : List (Int × Int)) : Bool := decide (l.length ≤ 48) && goodL l
theorem sgOk_len {l : List (Int × Int)} (h : sgOk l = true) : l.length ≤ 48 := by simp [sgOk] at h; exact h.1
theorem sgOk_good {l : List (Int × Int)} (h : sgOk l = true) : goodL l = true := by simp [sgOk] at h; exact h.2
/-- None of the first k points is zero. -/
def dcN (X Y : Nat → Int) (k : Nat) : Bool := (List.range k).all (fun i => nrB (X i) (Y i))
theorem dcN_succ (X Y : Nat → Int) (k : Nat) : dcN X Y (k + 1) = (dcN X Y k && nrB (X k) (Y k)) := by unfold dcN; rw [List.range_succ, List.all_append]; simp
theorem dcN_no {X Y : Nat → Int} {k n : Nat} (hk : k < n) (h : nrB (X k) (Y k) = false) : dcN X Y n = false := by
  unfold dcN
  rw [List.all_eq_false]
  exact ⟨k, List.mem_range.2 hk, by rw [h]; decide⟩
def dcT (X Y : Nat → Int) (i : Nat) : Int := nrV (X i) (Y i)
def dcL (X Y : Nat → Int) (n : Nat) : List Int := if dcN X Y n then gen n (dcT X Y) else []
theorem dcL_all (X Y : Nat → Int) (n : Nat) : allIn (dcL X Y n) 0 3 = true := by
  unfold dcL
  split
  · unfold allIn gen
    rw [List.all_map, List.all_eq_true]
    intro i _
    have := nrV_in (X i) (Y i)
    simp [inB, dcT, this]
  · rfl
theorem dcL_len (X Y : Nat → Int) (n : Nat) : (dcL X Y n).length ≤ n := by
  unfold dcL
  split
  · rw [gen_length]; exact Nat.le_refl _
  · exact Nat.zero_le _
def deOk (l : List (Int × Int)) : Bool := sgOk l && decide (l.length ≤ 32) && dcN (gre l) (gim l) l.length
def deF (l : List (Int × Int)) : List Int := if deOk l then gen l.length (dcT (gre l) (gim l)) else []
theorem deF_len (l : List (Int × Int)) : (deF l).length ≤ 1048576 := by
  unfold deF
  split
  · next h => simp [deOk] at h; rw [gen_length]; omega
  · simp
end Go.Proofs.Ytfjhocmnafdnfaa
