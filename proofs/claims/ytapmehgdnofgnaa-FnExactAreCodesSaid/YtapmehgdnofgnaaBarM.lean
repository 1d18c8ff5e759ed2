/- Which ranks are Barker sequences: plain mathematics. -/
import Derived.Test.YtapmehgdnofgnaaWith
import Derived.Test.YtapmehgdnofgnaaCors
namespace Go.Proofs.Ytapmehgdnofgnaa
set_option maxRecDepth 100000
open Go.RowKit

theorem lowD_in (r : Int) : ∀ m : Nat, ∀ x ∈ lowD r m, 0 ≤ x ∧ x ≤ 3
  | 0, x, h => by simp [lowD] at h
  | m + 1, x, h => by
    simp only [lowD, List.mem_cons] at h
    rcases h with rfl | h
    · omega
    · exact lowD_in r m x h
theorem lowD_seq (r : Int) (m : Nat) (h : m ≤ 15) : isSeq (lowD r m) = true := by
  refine isSeq_of (by rw [lowD_length]; omega) ?_
  unfold allIn
  rw [List.all_eq_true]
  intro x hx
  have := lowD_in r m x hx
  simp [inB]; omega
/-- The ranks below k of Barker sequences of n phases. -/
def barL (n : Nat) : Nat → List Nat
  | 0 => []
  | k + 1 => if barB (lowD (k : Int) n) then barL n k ++ [k] else barL n k
theorem barL_len (n k : Nat) : (barL n k).length ≤ k := by
  induction k with
  | zero => simp [barL]
  | succ k ih => simp only [barL]; split <;> (try simp) <;> omega
theorem barL_mem (n k : Nat) : ∀ r ∈ barL n k, r < k := by
  induction k with
  | zero => simp [barL]
  | succ k ih =>
    intro r hr
    simp only [barL] at hr
    split at hr
    · rw [List.mem_append] at hr
      rcases hr with h | h
      · have := ih r h; omega
      · simp at h; omega
    · have := ih r hr; omega
/-- The first one stays the first. -/
theorem barL_head (n : Nat) : ∀ (d k : Nat) (r : Nat) (t : List Nat), barL n k = r :: t → ∃ t', barL n (k + d) = r :: t'
  | 0, _, _, t, h => ⟨t, h⟩
  | d + 1, k, r, t, h => by
    obtain ⟨t', h'⟩ := barL_head n d k r t h
    show ∃ t', barL n (k + d + 1) = r :: t'
    have e : barL n (k + d + 1) = if barB (lowD ((k + d : Nat) : Int) n) then barL n (k + d) ++ [k + d] else barL n (k + d) := rfl
    rw [e, h']
    split
    · exact ⟨t' ++ [k + d], rfl⟩
    · exact ⟨t', rfl⟩
def smallN (n : Int) : Bool := decide (1 ≤ n ∧ n ≤ 6)
def pow4 (n : Nat) : Nat := 4 ^ n
theorem pow4_le (n : Nat) (h : n ≤ 6) : 1 ≤ pow4 n ∧ pow4 n ≤ 4096 := by
  have : ∀ j : Nat, j < 7 → (1 ≤ pow4 j ∧ pow4 j ≤ 4096) := by decide
  exact this n (by omega)
theorem shl_eq (N : Nat) (h : N ≤ 6) : wrap64 (2 ^ (2 * N)) = ((pow4 N : Nat) : Int) := by
  have h' : ∀ j : Nat, j < 7 → wrap64 (2 ^ (2 * j)) = ((pow4 j : Nat) : Int) := by decide +kernel
  exact h' N (by omega)
def barC (n : Int) : Int := if smallN n then (barL n.toNat (pow4 n.toNat)).length else 0
def barH (n : Nat) : List Nat := barL n (pow4 n)
def barFok (n : Int) : Bool := smallN n && decide (0 < (barH n.toNat).length)
def bkF (n : Int) : List Int := if barFok n then lowD ((barH n.toNat).headD 0 : Nat) n.toNat else []
theorem bkF_len (n : Int) : (bkF n).length ≤ 1048576 := by
  unfold bkF
  split
  · rename_i h
    simp only [barFok, smallN, Bool.and_eq_true, decide_eq_true_eq] at h
    rw [lowD_length]; omega
  · simp
end Go.Proofs.Ytapmehgdnofgnaa
