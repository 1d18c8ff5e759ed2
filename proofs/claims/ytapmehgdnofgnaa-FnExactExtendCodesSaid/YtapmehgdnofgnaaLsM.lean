/- A list of lists, made row by row, number by number: plain. -/
import Derived.Test.YtapmehgdnofgnaaRwC
import Derived.Test.YtapmehgdnofgnaaMaN
namespace Go.Proofs.Ytapmehgdnofgnaa
set_option maxRecDepth 100000
open Go.RowKit

theorem genR_set (n : Nat) (R : Nat → List Int) (i : Nat) (x : List Int) : (genR n R).set i x = genR n (fun k => if k = i then x else R k) := by
  apply getD_ext _ _ []
  · simp [genR_length]
  · intro k hk
    rw [List.length_set, genR_length] at hk
    rw [genR_getD _ _ _ hk]
    by_cases hi : i < (genR n R).length
    · rw [getD_set _ _ _ _ _ hi, genR_getD _ _ _ hk]
    · rw [List.set_eq_of_length_le (by omega), genR_getD _ _ _ hk, if_neg (by rw [genR_length] at hi; omega)]
/-- The rows below a are whole, the others empty. -/
def lsP (n : Nat) (M : Nat → Nat → Int) (a : Nat) : List (List Int) := genR n (fun i => if i < a then gen n (M i) else [])
/-- The row a is whole below b, and zeros behind. -/
def lsQ (n : Nat) (M : Nat → Nat → Int) (a b : Nat) : List (List Int) := genR n (fun i => if i < a then gen n (M i) else if i = a then gen n (fun j => if j < b then M a j else 0) else [])
theorem lsP_length (n : Nat) (M : Nat → Nat → Int) (a : Nat) : (lsP n M a).length = n := genR_length _ _
theorem lsQ_length (n : Nat) (M : Nat → Nat → Int) (a b : Nat) : (lsQ n M a b).length = n := genR_length _ _
theorem lsP_start (n : Nat) (M : Nat → Nat → Int) : List.replicate n [] = lsP n M 0 := by
  unfold lsP
  apply getD_ext _ _ []
  · simp [genR_length]
  · intro i hi
    rw [List.length_replicate] at hi
    rw [repl_getD, genR_getD _ _ _ hi, if_neg (by omega)]
theorem lsP_end (n : Nat) (M : Nat → Nat → Int) : lsP n M n = genR n (fun i => gen n (M i)) := genR_ext (fun _ hi => if_pos hi)
theorem repl_gen (n : Nat) (f : Nat → Int) : List.replicate n (0 : Int) = gen n (fun j => if j < 0 then f j else 0) := by
  apply getD_ext _ _ 0
  · simp [gen_length]
  · intro i hi
    rw [List.length_replicate] at hi
    rw [repl_getD, gen_getD _ _ _ hi, if_neg (by omega)]
theorem lsQ_start (n : Nat) (M : Nat → Nat → Int) (a : Nat) : (lsP n M a).set a (List.replicate n 0) = lsQ n M a 0 := by
  unfold lsP lsQ
  rw [genR_set]
  refine genR_ext (fun i _ => ?_)
  by_cases e : i = a
  · rw [if_pos e, if_neg (by omega), if_pos e]; exact repl_gen n (M a)
  · rw [if_neg e]
    by_cases h : i < a
    · rw [if_pos h, if_pos h]
    · rw [if_neg h, if_neg h, if_neg e]
theorem lsQ_row (n : Nat) (M : Nat → Nat → Int) (a b : Nat) (ha : a < n) : (lsQ n M a b).getD a [] = gen n (fun j => if j < b then M a j else 0) := by
  unfold lsQ
  rw [genR_getD _ _ _ ha, if_neg (by omega), if_pos rfl]
theorem lsQ_step (n : Nat) (M : Nat → Nat → Int) (a b : Nat) (ha : a < n) : (lsQ n M a b).set a (((lsQ n M a b).getD a []).set b (M a b)) = lsQ n M a (b + 1) := by
  rw [lsQ_row n M a b ha, gen_set]
  unfold lsQ
  rw [genR_set]
  refine genR_ext (fun i _ => ?_)
  by_cases e : i = a
  · rw [if_pos e, if_neg (by omega), if_pos e]
    refine gen_ext (fun j _ => ?_)
    by_cases h : j = b
    · subst h; rw [if_pos rfl, if_pos (by omega)]
    · rw [if_neg h]
      by_cases h2 : j < b
      · rw [if_pos h2, if_pos (by omega)]
      · rw [if_neg h2, if_neg (by omega)]
  · rw [if_neg e]
    by_cases h : i < a
    · rw [if_pos h, if_pos h]
    · rw [if_neg h, if_neg h, if_neg e, if_neg e]
theorem lsQ_end (n : Nat) (M : Nat → Nat → Int) (a : Nat) : lsQ n M a n = lsP n M (a + 1) := by
  unfold lsP lsQ
  refine genR_ext (fun i _ => ?_)
  by_cases h : i < a
  · rw [if_pos h, if_pos (by omega)]
  · rw [if_neg h]
    by_cases e : i = a
    · rw [if_pos e, if_pos (by omega), e]; exact gen_ext (fun j hj => if_pos hj)
    · rw [if_neg e, if_neg (by omega)]
end Go.Proofs.Ytapmehgdnofgnaa
