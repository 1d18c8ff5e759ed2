/- SequenceWith: the model's and the program's. -/
import Derived.Test.YtapmehgdnofgnaaKit
namespace Go.Proofs.Ytapmehgdnofgnaa
set_option maxRecDepth 100000
open Go.RowKit

/-- The m low digits of r in the base 4, the greatest first. -/
def lowD (r : Int) : Nat → List Int
  | 0 => []
  | m + 1 => ((r / 4 ^ m) % 4) :: lowD r m
theorem lowD_length (r : Int) (m : Nat) : (lowD r m).length = m := by induction m with | zero => rfl | succ m ih => simp [lowD, ih]
def withOk (n r : Int) : Bool := decide (0 ≤ n ∧ n ≤ 15) && decide (0 ≤ r ∧ r < 4 ^ n.toNat)
def withF (n r : Int) : List Int := if withOk n r then lowD r n.toNat else []

theorem bound_eq (N : Nat) (h : N ≤ 15) : wrap64 (wrap64 (2 ^ (2 * N)) - 1) = 4 ^ N - 1 := by
  have h' : ∀ j : Nat, j < 16 → wrap64 (wrap64 (2 ^ (2 * j)) - 1) = 4 ^ j - 1 := by decide +kernel
  exact h' N (by omega)
theorem withOk_nat (N : Nat) (r : Int) (h : N ≤ 15) : withOk N r = inB r 0 (4 ^ N - 1) := by
  unfold withOk inB
  have h1 : (0 ≤ (N : Int) ∧ (N : Int) ≤ 15) := by omega
  rw [decide_eq_true h1, Bool.true_and, Int.toNat_natCast, Bool.eq_iff_iff]
  simp
  omega
theorem withOk_bad (n r : Int) (h : ¬ (0 ≤ n ∧ n ≤ 15)) : withOk n r = false := by unfold withOk; rw [decide_eq_false h]; rfl
theorem low_set (r : Int) (N m : Nat) (h : m < N) : ((List.replicate (N - m) (0 : Int) ++ lowD r m).map (Value.int .i64)).set (N - m - 1) (.int .i64 (r / 4 ^ m % 4)) = (List.replicate (N - (m + 1)) (0 : Int) ++ lowD r (m + 1)).map (Value.int .i64) := by
  rw [← List.map_set]
  congr 1
  rw [show N - m = (N - (m + 1)) + 1 by omega, List.replicate_succ', List.append_assoc, Nat.add_sub_cancel]
  rw [List.set_append_right _ _ (by simp), List.length_replicate, Nat.sub_self]
  rfl
theorem low_at (r : Int) (N m : Nat) (h : m < N) : ((List.replicate (N - m) (0 : Int) ++ lowD r m).map (Value.int .i64))[N - m - 1]? = some (.int .i64 0) := by
  rw [List.getElem?_map, List.getElem?_append_left (by simp; omega), List.getElem?_replicate, if_pos (by omega)]
  rfl
theorem div_pow (r : Int) (m : Nat) : r / 4 ^ m / 4 = r / 4 ^ (m + 1) := by
  rw [Int.pow_succ, Int.ediv_ediv_of_nonneg (Int.pow_nonneg (by omega))]
theorem low_len (r : Int) (N m : Nat) (h : m ≤ N) : (List.replicate (N - m) (0 : Int) ++ lowD r m).length = N := by simp [lowD_length]; omega

theorem withOk_true {N : Nat} {r : Int} (hN : N ≤ 15) (h : withOk N r = true) : 0 ≤ r ∧ r ≤ 1073741824 := by
  rw [withOk_nat N r hN] at h
  have h' : ∀ j : Nat, j < 16 → (4 : Int) ^ j ≤ 1073741824 := by decide
  have := h' N (by omega)
  simp [inB] at h
  omega
theorem not_range (n : Int) (h : ¬ (0 ≤ n ∧ n ≤ 15)) : inB n 0 15 = false := by simp [inB]; omega

theorem big_rest (N : Nat) (r : Int) (hN : N ≤ 15) (hr : 0 ≤ r) : (0 < r / 4 ^ N) ↔ withOk N r = false := by
  have hp : (0 : Int) < 4 ^ N := Int.pow_pos (by omega)
  rw [withOk_nat N r hN]
  simp [inB, hr]
  constructor
  · intro h
    have := (Int.le_ediv_iff_mul_le hp).1 (show (1 : Int) ≤ r / 4 ^ N by omega)
    omega
  · intro h
    have := (Int.le_ediv_iff_mul_le (a := 1) (b := r) hp).2 (by omega)
    omega

theorem withF_len (n r : Int) : (withF n r).length ≤ 1048576 := by
  unfold withF
  split
  · rename_i h
    rw [lowD_length]
    simp [withOk] at h
    omega
  · simp
end Go.Proofs.Ytapmehgdnofgnaa
