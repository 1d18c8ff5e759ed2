/- Which ranks are perfect sequences: plain mathematics. -/
import Derived.Test.YtcagiecgbjnefabWith
import Derived.Test.YtcagiecgbjnefabPfM
namespace Go.Proofs.Ytcagiecgbjnefab
set_option maxRecDepth 100000
open Go.RowKit

/-- The ranks below k that B marks. -/
def rkL (B : Nat → Bool) : Nat → List Nat
  | 0 => []
  | k + 1 => if B k then rkL B k ++ [k] else rkL B k
theorem rkL_len (B : Nat → Bool) (k : Nat) : (rkL B k).length ≤ k := by
  induction k with
  | zero => simp [rkL]
  | succ k ih => simp only [rkL]; split <;> (try simp) <;> omega
theorem rkL_head (B : Nat → Bool) : ∀ (d k : Nat) (r : Nat) (t : List Nat), rkL B k = r :: t → ∃ t', rkL B (k + d) = r :: t'
  | 0, _, _, t, h => ⟨t, h⟩
  | d + 1, k, r, t, h => by
    obtain ⟨t', h'⟩ := rkL_head B d k r t h
    show ∃ t', rkL B (k + d + 1) = r :: t'
    have e : rkL B (k + d + 1) = if B (k + d) then rkL B (k + d) ++ [k + d] else rkL B (k + d) := rfl
    rw [e, h']
    split
    · exact ⟨t' ++ [k + d], rfl⟩
    · exact ⟨t', rfl⟩
def pow4' (n : Nat) : Nat := 4 ^ n
theorem pow4_le' (n : Nat) (h : n ≤ 8) : 1 ≤ pow4' n ∧ pow4' n ≤ 65536 := by
  have : ∀ j : Nat, j < 9 → (1 ≤ pow4' j ∧ pow4' j ≤ 65536) := by decide
  exact this n (by omega)
theorem shl_eq' (N : Nat) (h : N ≤ 8) : wrap64 (2 ^ (2 * N)) = ((pow4' N : Nat) : Int) := by
  have h' : ∀ j : Nat, j < 9 → wrap64 (2 ^ (2 * j)) = ((pow4' j : Nat) : Int) := by decide +kernel
  exact h' N (by omega)
theorem low_in (r : Int) : ∀ m : Nat, ∀ x ∈ lowD r m, 0 ≤ x ∧ x ≤ 3
  | 0, x, h => by simp [lowD] at h
  | m + 1, x, h => by
    simp only [lowD, List.mem_cons] at h
    rcases h with rfl | h
    · omega
    · exact low_in r m x h
theorem low_seq (r : Int) (m : Nat) (h : m ≤ 15) : isSeq (lowD r m) = true := by
  refine isSeq_of (by rw [lowD_length]; omega) ?_
  unfold allIn
  rw [List.all_eq_true]
  intro x hx
  have := low_in r m x hx
  simp [inB]; omega
/-- Is the rank's sequence perfect? -/
def pcB (N : Nat) (k : Nat) : Bool := pfB (lowD (k : Int) N)
def pcH (N : Nat) : List Nat := rkL (pcB N) (pow4' N)
def small6 (n : Int) : Bool := decide (1 ≤ n ∧ n ≤ 6)
def small8 (n : Int) : Bool := decide (1 ≤ n ∧ n ≤ 8)
def pcC (n : Int) : Int := if small6 n then (pcH n.toNat).length else 0
def pcFok (n : Int) : Bool := small8 n && decide (0 < (pcH n.toNat).length)
def pcF (n : Int) : List Int := if pcFok n then lowD ((pcH n.toNat).headD 0 : Nat) n.toNat else []
theorem pcF_len (n : Int) : (pcF n).length ≤ 1048576 := by
  unfold pcF
  split
  · rename_i h
    simp only [pcFok, small8, Bool.and_eq_true, decide_eq_true_eq] at h
    rw [lowD_length]; omega
  · simp
def pcA (n : Int) : List (List Int) := if small6 n then (pcH n.toNat).map (fun r : Nat => lowD (r : Int) n.toNat) else []
end Go.Proofs.Ytcagiecgbjnefab
