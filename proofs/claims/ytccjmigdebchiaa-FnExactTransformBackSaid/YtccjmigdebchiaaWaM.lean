/- Walsh's transform, plainly. -/
import Derived.Test.YtccjmigdebchiaaToM
import Derived.Test.YtccjmigdebchiaaSg
namespace Go.Proofs.Ytccjmigdebchiaa

set_option maxRecDepth 100000
def waOk0 (l : List (Int × Int)) : Bool := waZ l.length && goodL l
def lgW (n : Nat) : Nat := n.log2
theorem wa_cases {n : Nat} (h : waZ n = true) : n = 1 ∨ n = 2 ∨ n = 4 ∨ n = 8 ∨ n = 16 ∨ n = 32 := by
  have := of_decide_eq_true h
  omega
theorem wa_pow {n : Nat} (h : waZ n = true) : n = 2 ^ lgW n := by
  rcases wa_cases h with rfl | rfl | rfl | rfl | rfl | rfl <;> decide
def wZ (l : List (Int × Int)) : Nat → Int × Int := fun i => (gre l i, gim l i)
def waL (l : List (Int × Int)) : List (Int × Int) := genG l.length (fun i => (trF 2 2 (lgW l.length) (wZ l) i).1) (fun i => (trF 2 2 (lgW l.length) (wZ l) i).2)
def wfOk (l : List (Int × Int)) : Bool := waOk0 l && goodL (waL l)
def wfA (l : List (Int × Int)) : List (Int × Int) := if wfOk l then waL l else []
theorem wfA_len (l : List (Int × Int)) : (wfA l).length ≤ 1048576 := by
  unfold wfA
  cases h : wfOk l with
  | false => simp
  | true =>
    unfold wfOk waOk0 at h
    have := wa_cases (Bool.and_eq_true_iff.1 (Bool.and_eq_true_iff.1 h).1).1
    rw [if_pos rfl]
    unfold waL
    rw [genG_length]
    omega
/-- n & (n - 1), as the program's numbers are. -/
def andV (n : Int) : Int := bits .and .i64 n (n - 1)
theorem andV_zero (n : Nat) (h1 : 1 ≤ n) (h2 : n ≤ 32) : decide (andV n = 0) = waZ n := by
  have h : ∀ n : Nat, n < 33 → 1 ≤ n → decide (andV n = 0) = waZ n := by decide +kernel
  exact h n (by omega) h1
/-- What a step makes of two numbers. -/
theorem w_low (s : Nat) (Z : Nat → Int × Int) (c q : Nat) (hq : q < s) : stF 2 2 s Z (c * (2 * s) + q) = ((Z (c * (2 * s) + q)).1 + (Z (c * (2 * s) + q + s)).1, (Z (c * (2 * s) + q)).2 + (Z (c * (2 * s) + q + s)).2) := by
  rw [stF_at 2 2 s Z c q (by omega)]
  have e0 : q / s = 0 := Nat.div_eq_of_lt hq
  have e1 : q % s = q := Nat.mod_eq_of_lt hq
  unfold btX btY btT
  simp [sumN, e0, e1, dtT, vx, vy, Nat.add_assoc]
theorem w_high (s : Nat) (Z : Nat → Int × Int) (c q : Nat) (hq : q < s) : stF 2 2 s Z (c * (2 * s) + q + s) = ((Z (c * (2 * s) + q)).1 + -(Z (c * (2 * s) + q + s)).1, (Z (c * (2 * s) + q)).2 + -(Z (c * (2 * s) + q + s)).2) := by
  rw [show c * (2 * s) + q + s = c * (2 * s) + (q + s) by omega, stF_at 2 2 s Z c (q + s) (by omega)]
  have e0 : (q + s) / s = 1 := by rw [Nat.add_div_right _ (by omega), Nat.div_eq_of_lt hq]
  have e1 : (q + s) % s = q := by rw [Nat.add_mod_right, Nat.mod_eq_of_lt hq]
  unfold btX btY btT
  simp [sumN, e0, e1, dtT, vx, vy]
end Go.Proofs.Ytccjmigdebchiaa
