/- Moves counted and sizes: plain. -/
import Derived.Test.YtcagiecgbjnefabClM
import Derived.Test.YtcagiecgbjnefabPcM
import Derived.Test.YtcagiecgbjnefabRw
namespace Go.Proofs.Ytcagiecgbjnefab
set_option maxRecDepth 100000
open Go.RowKit

theorem mvI_ok (x : Nat) (h : x < 64) : clOk (mvI x) = true := by
  unfold mvI clOk inB
  simp only [Bool.and_eq_true, decide_eq_true_eq]
  omega
theorem mbX_first (l t : List Int) (k : Nat) (hk : mbX l t k = []) (ht : clX k l = t) : ∀ d, (mbX l t (k + 1 + d)).headD 0 = k ∧ mbX l t (k + 1 + d) ≠ []
  | 0 => by rw [Nat.add_zero, mbX_succ, hk, if_pos ht]; simp
  | d + 1 => by
    obtain ⟨h1, h2⟩ := mbX_first l t k hk ht d
    rw [← Nat.add_assoc, mbX_succ]
    cases h : mbX l t (k + 1 + d) with
    | nil => exact absurd h h2
    | cons a r => rw [h] at h1; simpa using h1
theorem mbX_none (l t : List Int) (h : l.length ≠ t.length) (k : Nat) : mbX l t k = [] := by
  induction k with
  | zero => rfl
  | succ k ih => rw [mbX_succ, ih, if_neg (fun e => h (by rw [← e, clX_len]))]; rfl
/-- How many sequences of n phases below k a move leaves as they are. -/
def fxC (m : List Int) (n : Nat) : Nat → Nat
  | 0 => 0
  | k + 1 => fxC m n k + if clWith (fun a b c d => clT a b c d (lowD (k : Int) n)) m = lowD (k : Int) n then 1 else 0
theorem fxC_le (m : List Int) (n k : Nat) : fxC m n k ≤ k := by
  induction k with
  | zero => exact Nat.le_refl _
  | succ k ih => simp only [fxC]; split <;> omega
def cfOk9 (n : Int) (m : List Int) : Bool := inB n 0 5 && clOk m
def cfV9 (n : Int) (m : List Int) : Int := if cfOk9 n m then (fxC m n.toNat (pow4' n.toNat) : Nat) else 0
def szF9 (l : List Int) : List Int := if ranked l then gen l.length (fun u => nS l (u : Int)) else []
theorem szF9_len (l : List Int) : (szF9 l).length ≤ 1048576 := by
  unfold szF9; split
  · rename_i h; rw [gen_length]; have := (ranked_seq h).2; omega
  · exact Nat.zero_le _
theorem kpF_sz (l : List Int) : sz2 (kpF l) ≤ 1048576 := by
  unfold kpF; split
  · have h1 := mbX_le l l 64
    have h2 : ∀ xs : List Nat, tot (xs.map mvI) = 4 * xs.length := fun xs => by
      induction xs with
      | nil => rfl
      | cons x xs ih => simp only [List.map_cons, tot, List.length_cons, ih, mvI_len]; omega
    unfold sz2
    rw [h2, List.length_map]; omega
  · decide
end Go.Proofs.Ytcagiecgbjnefab
