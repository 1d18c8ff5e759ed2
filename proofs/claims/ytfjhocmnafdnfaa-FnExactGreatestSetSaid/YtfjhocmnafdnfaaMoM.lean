/- Chapter 7's values: bits and phases, steps, errors, mixed phases. -/
import Derived.Test.YtfjhocmnafdnfaaPhs
namespace Go.Proofs.Ytfjhocmnafdnfaa
set_option maxRecDepth 100000
open Go.RowKit

theorem wrI (z : Int) (h : -1000000000 ≤ z ∧ z ≤ 1000000000) : IntKind.i64.wrap z = z := by rw [IntKind.wrap_i64]; omega
/-! ### bits -/
def bsOk (l : List Int) : Bool := decide (l.length ≤ 64) && allIn l 0 1
/-- Bits that are sent. -/
def seOk (l : List Int) : Bool := bsOk l && decide (l.length % 2 = 0)
theorem bsOk_len {l : List Int} (h : bsOk l = true) : l.length ≤ 64 := by simp [bsOk] at h; exact h.1
theorem bsOk_all {l : List Int} (h : bsOk l = true) : allIn l 0 1 = true := by simp [bsOk] at h; exact h.2
theorem bsOk_at {l : List Int} (h : bsOk l = true) (k : Nat) (hk : k < l.length) : 0 ≤ l.getD k 0 ∧ l.getD k 0 ≤ 1 := allIn_getD (bsOk_all h) k hk
theorem seOk_bs {l : List Int} (h : seOk l = true) : bsOk l = true := by simp [seOk] at h; exact h.1
theorem seOk_even {l : List Int} (h : seOk l = true) : l.length % 2 = 0 := by simp [seOk] at h; exact h.2
/-- The phase of two bits. -/
def moT (l : List Int) (i : Nat) : Int := 2 * l.getD (2 * i) 0 + (l.getD (2 * i) 0 + l.getD (2 * i + 1) 0) % 2
def moL (l : List Int) : List Int := gen (l.length / 2) (moT l)
def moF (l : List Int) : List Int := if seOk l then moL l else []
theorem moT_in {l : List Int} (h : bsOk l = true) (i : Nat) (hi : 2 * i + 1 < l.length) : 0 ≤ moT l i ∧ moT l i ≤ 3 := by
  have a := bsOk_at h (2 * i) (by omega)
  have b := bsOk_at h (2 * i + 1) hi
  unfold moT
  omega
theorem moL_length (l : List Int) : (moL l).length = l.length / 2 := gen_length _ _
theorem allIn_gen (n : Nat) (g : Nat → Int) (lo hi : Int) (h : ∀ i, i < n → lo ≤ g i ∧ g i ≤ hi) : allIn (gen n g) lo hi = true := by
  unfold allIn gen
  rw [List.all_map, List.all_eq_true]
  intro i hi2
  have := h i (List.mem_range.1 hi2)
  simp [inB, this]
theorem moL_seq {l : List Int} (h : seOk l = true) : isSeq (moL l) = true := by
  have h1 := bsOk_len (seOk_bs h)
  refine isSeq_of (by rw [moL_length]; omega) (allIn_gen _ _ _ _ fun i hi => moT_in (seOk_bs h) i (by omega))
/-! ### phases as bits -/
def bkT (l : List Int) (i : Nat) : Int := if i % 2 = 0 then l.getD (i / 2) 0 / 2 else (l.getD (i / 2) 0 + l.getD (i / 2) 0 / 2) % 2
def bkL (l : List Int) : List Int := gen (2 * l.length) (bkT l)
def bkF (l : List Int) : List Int := if isSeq l then bkL l else []
theorem bkT_even (l : List Int) (j : Nat) : bkT l (2 * j) = l.getD j 0 / 2 := by unfold bkT; rw [if_pos (by omega), show 2 * j / 2 = j by omega]
theorem bkT_odd (l : List Int) (j : Nat) : bkT l (2 * j + 1) = (l.getD j 0 + l.getD j 0 / 2) % 2 := by unfold bkT; rw [if_neg (by omega), show (2 * j + 1) / 2 = j by omega]
/-! ### steps -/
def bfN (b : Int) (l : List Int) (i : Nat) : Int := if i = 0 then b else l.getD (i - 1) 0
theorem bfN_zero (b : Int) (l : List Int) : bfN b l 0 = b := rfl
theorem bfN_succ (b : Int) (l : List Int) (i : Nat) : bfN b l (i + 1) = l.getD i 0 := by unfold bfN; rw [if_neg (by omega), Nat.add_sub_cancel]
def stpT (b : Int) (l : List Int) (i : Nat) : Int := (l.getD i 0 - bfN b l i) % 4
def stpL (b : Int) (l : List Int) : List Int := gen l.length (stpT b l)
def stpF (l : List Int) : List Int := if isSeq l then stpL 0 l else []
theorem bfN_in (b : Int) (hb : 0 ≤ b ∧ b ≤ 3) (l : List Int) (h : allIn l 0 3 = true) (i : Nat) (hi : i ≤ l.length) : 0 ≤ bfN b l i ∧ bfN b l i ≤ 3 := by
  cases i with
  | zero => exact hb
  | succ i => rw [bfN_succ]; exact allIn_getD h i (by omega)
theorem stpL_length (b : Int) (l : List Int) : (stpL b l).length = l.length := gen_length _ _
theorem stpL_all (b : Int) (l : List Int) : allIn (stpL b l) 0 3 = true := allIn_gen _ _ _ _ fun i _ => by unfold stpT; omega
/-- The phase to which the first k steps lead. -/
def fsN (b : Int) (l : List Int) : Nat → Int
  | 0 => b
  | k + 1 => (fsN b l k + l.getD k 0) % 4
theorem fsN_in (b : Int) (hb : 0 ≤ b ∧ b ≤ 3) (l : List Int) (k : Nat) : 0 ≤ fsN b l k ∧ fsN b l k ≤ 3 := by
  cases k with
  | zero => exact hb
  | succ k => rw [fsN]; omega
def fsL (b : Int) (l : List Int) : List Int := gen l.length (fun i => fsN b l (i + 1))
def fsF (l : List Int) : List Int := if isSeq l then fsL 0 l else []
theorem fsL_length (b : Int) (l : List Int) : (fsL b l).length = l.length := gen_length _ _
theorem fsL_all (b : Int) (l : List Int) : allIn (fsL b l) 0 3 = true := allIn_gen _ _ _ _ fun i _ => by show 0 ≤ (fsN b l i + l.getD i 0) % 4 ∧ (fsN b l i + l.getD i 0) % 4 ≤ 3; omega
/-! ### errors -/
def erN (a b : List Int) : Nat → Int
  | 0 => 0
  | k + 1 => erN a b k + (a.getD k 0 + b.getD k 0) % 2
theorem erN_in (a b : List Int) (k : Nat) : 0 ≤ erN a b k ∧ erN a b k ≤ k := by
  induction k with
  | zero => simp [erN]
  | succ k ih => rw [erN]; push_cast; omega
def erOk (a b : List Int) : Bool := bsOk a && bsOk b && decide (a.length = b.length)
def erV (a b : List Int) : Int := if erOk a b then erN a b a.length else 0
/-! ### mixed phases -/
def nxK (k : Nat) : Nat := if k % 2 = 1 then (k / 2) ^^^ 184 else k / 2
def mxK (k : Nat) : Nat → Nat
  | 0 => k
  | i + 1 => nxK (mxK k i)
theorem nxK_in : ∀ k : Nat, k < 256 → nxK k < 256 := by decide +kernel
theorem mxK_in (k : Nat) (h : k < 256) (i : Nat) : mxK k i < 256 := by
  induction i with
  | zero => exact h
  | succ i ih => exact nxK_in _ ih
def miT (l : List Int) (k : Nat) (i : Nat) : Int := (l.getD i 0 + mxK k i) % 4
def miOk (l : List Int) (k : Int) : Bool := isSeq l && inB k 1 255
def miF (l : List Int) (k : Int) : List Int := if miOk l k then gen l.length (miT l k.toNat) else []
theorem xor184 : ∀ k : Nat, k < 128 → bits .xor .i64 (k : Int) 184 = ((k ^^^ 184 : Nat) : Int) := by decide +kernel
theorem xor01 (a b : Int) (ha : 0 ≤ a ∧ a ≤ 1) (hb : 0 ≤ b ∧ b ≤ 1) : bits .xor .i64 a b = (a + b) % 2 := by
  rcases (show a = 0 ∨ a = 1 by omega) with rfl | rfl <;> rcases (show b = 0 ∨ b = 1 by omega) with rfl | rfl <;> decide
/-! ### lengths -/
theorem moF_len (l : List Int) : (moF l).length ≤ 1048576 := by
  unfold moF
  split
  · next h => have := bsOk_len (seOk_bs h); rw [moL_length]; omega
  · simp
theorem bkF_len (l : List Int) : (bkF l).length ≤ 1048576 := by
  unfold bkF
  split
  · next h => have := isSeq_len h; unfold bkL; rw [gen_length]; omega
  · simp
theorem stpF_len (l : List Int) : (stpF l).length ≤ 1048576 := by
  unfold stpF
  split
  · next h => have := isSeq_len h; rw [stpL_length]; omega
  · simp
theorem fsF_len (l : List Int) : (fsF l).length ≤ 1048576 := by
  unfold fsF
  split
  · next h => have := isSeq_len h; rw [fsL_length]; omega
  · simp
theorem miF_len (l : List Int) (k : Int) : (miF l k).length ≤ 1048576 := by
  unfold miF
  split
  · next h => have := isSeq_len (by unfold miOk at h; exact (Bool.and_eq_true_iff.1 h).1 : isSeq l = true); rw [gen_length]; omega
  · simp
end Go.Proofs.Ytfjhocmnafdnfaa
