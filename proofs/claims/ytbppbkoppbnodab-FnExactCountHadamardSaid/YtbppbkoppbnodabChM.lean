/- Hadamard matrices counted: plain. -/
import Derived.Test.YtbppbkoppbnodabHdM
import Derived.Test.YtbppbkoppbnodabBarM
namespace Go.Proofs.Ytbppbkoppbnodab

set_option maxRecDepth 100000
def cntN (p : Nat → Bool) : Nat → Nat
  | 0 => 0
  | k + 1 => cntN p k + (if p k then 1 else 0)
theorem cntN_le (p : Nat → Bool) : ∀ k, cntN p k ≤ k
  | 0 => Nat.le_refl _
  | k + 1 => by have := cntN_le p k; simp only [cntN]; split <;> omega
theorem cntN_none (p : Nat → Bool) (h : ∀ k, p k = false) : ∀ k, cntN p k = 0
  | 0 => rfl
  | k + 1 => by simp only [cntN]; rw [cntN_none p h k, h k]; rfl
/-- The rows of a code. -/
def cdM (n code : Nat) : List (List Int) := genR n (fun i => gen n (fun j => (lowD (code : Int) (n * n)).getD (i * n + j) 0))
def cdB (n code : Nat) : Bool := haB (cdM n code)
theorem lowD_ph (r : Int) (m j : Nat) (h : j < m) : 0 ≤ (lowD r m).getD j 0 ∧ (lowD r m).getD j 0 ≤ 3 := by
  have hl := lowD_length r m
  have : (lowD r m).getD j 0 ∈ lowD r m := by
    rw [show (lowD r m).getD j 0 = (lowD r m)[j]'(by rw [hl]; exact h) by simp [List.getD, hl, h]]
    exact List.getElem_mem _
  exact lowD_in r m _ this
theorem cd_at (n code i j : Nat) (hi : i < n) (hj : j < n) : atM (cdM n code) i j = (lowD (code : Int) (n * n)).getD (i * n + j) 0 := by
  show ((cdM n code).getD i []).getD j 0 = _
  unfold cdM
  rw [genR_getD _ _ _ hi, gen_getD _ _ _ hj]
theorem cd_len (n code : Nat) : (cdM n code).length = n := genR_length _ _
theorem cd_ok (n code : Nat) (h1 : 1 ≤ n) (h8 : n ≤ 8) : maOk (cdM n code) = true := by
  refine maOk_of (by rw [cd_len]; exact ⟨h1, h8⟩) (fun i hi => ?_) (fun i j hi hj => ?_)
  · rw [cd_len] at hi ⊢
    unfold cdM
    rw [genR_getD _ _ _ hi, gen_length]
  · rw [cd_len] at hi hj
    rw [cd_at n code i j hi hj]
    refine lowD_ph _ _ _ ?_
    have h2 : (i + 1) * n ≤ n * n := Nat.mul_le_mul_right n hi
    rw [Nat.succ_mul] at h2
    omega
theorem odd_sum (k : Int) : (vx (k % 4) + vy (k % 4)) % 2 = 1 := by
  have h : k % 4 = 0 ∨ k % 4 = 1 ∨ k % 4 = 2 ∨ k % 4 = 3 := by omega
  rcases h with h | h | h | h <;> rw [h] <;> decide
theorem cd_three (code : Nat) : cdB 3 code = false := by
  unfold cdB
  cases h : haB (cdM 3 code) with
  | false => rfl
  | true =>
    have hok := cd_ok 3 code (by omega) (by omega)
    have hl := cd_len 3 code
    have := (haB_iff _).1 h 0 1 (by omega) (by rw [hl]; omega)
    unfold badP at this
    rw [inS_ip hok vx 0 1 (by rw [hl]; omega) (by rw [hl]; omega), inS_ip hok vy 0 1 (by rw [hl]; omega) (by rw [hl]; omega), hl, ipS_n _ _ _ _ (by omega), ipS_n _ _ _ _ (by omega)] at this
    simp only [Bool.not_eq_false', Bool.and_eq_true, decide_eq_true_eq] at this
    obtain ⟨h1, h2⟩ := this
    simp only [sumN] at h1 h2
    have o0 := odd_sum (atM (cdM 3 code) 0 0 - atM (cdM 3 code) 1 0)
    have o1 := odd_sum (atM (cdM 3 code) 0 1 - atM (cdM 3 code) 1 1)
    have o2 := odd_sum (atM (cdM 3 code) 0 2 - atM (cdM 3 code) 1 2)
    omega
theorem cd_one : cntN (cdB 1) 4 = 4 := by decide +kernel
theorem cd_two : cntN (cdB 2) 256 = 64 := by decide +kernel
/-- Rows one after the other, each orthogonal to those above. -/
def orB (R : Nat → Nat → Int) (n i : Nat) : Bool := (List.range i).all (fun k => decide (ipS vx (R k) (R i) n = 0) && decide (ipS vy (R k) (R i) n = 0))
def rwR (n r : Nat) : Nat → Int := fun c => (lowD (r : Int) n).getD c 0
def setR (R : Nat → Nat → Int) (n i r : Nat) : Nat → Nat → Int := fun k => if k = i then rwR n r else R k
def addN (g : Nat → Nat) : Nat → Nat
  | 0 => 0
  | k + 1 => addN g k + g k
def hcF (n : Nat) : Nat → (Nat → Nat → Int) → Nat
  | 0, _ => 1
  | d + 1, R => addN (fun r => if orB (setR R n (n - (d + 1)) r) n (n - (d + 1)) then hcF n d (setR R n (n - (d + 1)) r) else 0) (4 ^ n)
theorem addN_le (g : Nat → Nat) (b : Nat) (h : ∀ i, g i ≤ b) : ∀ k, addN g k ≤ k * b
  | 0 => by simp [addN]
  | k + 1 => by have h1 := addN_le g b h k; have h2 := h k; simp only [addN]; rw [Nat.succ_mul]; omega
theorem hcF_le (n : Nat) : ∀ d R, hcF n d R ≤ (4 ^ n) ^ d
  | 0, _ => by simp [hcF]
  | d + 1, R => by
    simp only [hcF]
    refine Nat.le_trans (addN_le _ ((4 ^ n) ^ d) (fun r => ?_) (4 ^ n)) (by rw [Nat.pow_succ, Nat.mul_comm]; exact Nat.le_refl _)
    split
    · exact hcF_le n d _
    · exact Nat.zero_le _
theorem hc_one : hcF 1 1 (fun _ _ => 0) = 4 := by decide +kernel
theorem hc_two : hcF 2 2 (fun _ _ => 0) = 64 := by decide +kernel
theorem hc_three : hcF 3 3 (fun _ _ => 0) = 0 := by decide +kernel
def chOk (n : Int) : Bool := decide (1 ≤ n ∧ n ≤ 3)
def chC (n : Int) : Int := if n = 1 then 4 else if n = 2 then 64 else 0
end Go.Proofs.Ytbppbkoppbnodab
