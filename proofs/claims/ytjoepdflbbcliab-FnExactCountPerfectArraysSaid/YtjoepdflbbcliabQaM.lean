/- Which ranks are perfect arrays: plain mathematics. -/
import Derived.Test.YtjoepdflbbcliabPcM
import Derived.Test.YtjoepdflbbcliabPwM
import Derived.Test.YtjoepdflbbcliabGr
namespace Go.Proofs.Ytjoepdflbbcliab
set_option maxRecDepth 100000
open Go.RowKit

/-- The array with a rank: its phases row by row are the rank's digits. -/
def pqM (R C k : Nat) : List (List Int) := genR R (fun i => gen C (fun j => (lowD (k : Int) (R * C)).getD (i * C + j) 0))
def pqB (R C : Nat) (k : Nat) : Bool := pwB (pqM R C k)
theorem pqM_len (R C k : Nat) : (pqM R C k).length = R := genR_length _ _
theorem pqM_row (R C k i : Nat) (hi : i < R) : (pqM R C k).getD i [] = gen C (fun j => (lowD (k : Int) (R * C)).getD (i * C + j) 0) := genR_getD _ _ _ hi
theorem pqM_cols (R C k : Nat) (h : 0 < R) : colsOf (pqM R C k) = C := by unfold colsOf; rw [pqM_row _ _ _ _ h, gen_length]
theorem place_lt {R C i j : Nat} (hi : i < R) (hj : j < C) : i * C + j < R * C := by
  have h : (i + 1) * C ≤ R * C := Nat.mul_le_mul_right C hi
  rw [Nat.add_mul, Nat.one_mul] at h
  omega
theorem pqM_at (R C k i j : Nat) (hi : i < R) (hj : j < C) : atM (pqM R C k) i j = (lowD (k : Int) (R * C)).getD (i * C + j) 0 := by
  unfold atM; rw [pqM_row _ _ _ _ hi, gen_getD _ _ _ hj]
theorem low_at3 (r : Int) (n c : Nat) (h : c < n) : 0 ≤ (lowD r n).getD c 0 ∧ (lowD r n).getD c 0 ≤ 3 :=
  low_in r n _ (by rw [List.getD, List.getElem?_eq_getElem (by rw [lowD_length]; exact h)]; exact List.getElem_mem _)
theorem pqM_ok (R C k : Nat) (hR : 1 ≤ R ∧ R ≤ 8) (hC : 1 ≤ C ∧ C ≤ 8) : arOk (pqM R C k) = true := by
  refine arOk_yes (by rw [pqM_len]; exact decide_eq_true hR) (by rw [pqM_cols _ _ _ (by omega)]; exact decide_eq_true hC) (fun i hi => ?_)
  rw [pqM_len] at hi
  rw [pqM_cols _ _ _ (by omega), pqM_row _ _ _ _ hi]
  unfold rowOk
  rw [gen_length, decide_eq_true rfl, Bool.true_and]
  unfold allIn
  rw [List.all_eq_true]
  intro x hx
  obtain ⟨j, hj, rfl⟩ := List.getElem_of_mem hx
  have hj' : j < C := by simpa [gen] using hj
  have := low_at3 (k : Int) (R * C) (i * C + j) (place_lt hi hj')
  simp only [gen, List.getElem_map, List.getElem_range]
  obtain ⟨y, hy⟩ : ∃ y, y = (lowD (k : Int) (R * C)).getD (i * C + j) 0 := ⟨_, rfl⟩
  rw [← hy] at this ⊢
  simp [inB]; omega
/-- The grid of the array with a rank. -/
def pqG (R C k : Nat) : Array Value := gfV (pqM R C k)
theorem pqG_eq (R C k : Nat) (hR : 1 ≤ R ∧ R ≤ 8) (hC : 1 ≤ C ∧ C ≤ 8) : pqG R C k = grA (GV R C (fun i j => (lowD (k : Int) (R * C)).getD (i * C + j) 0 % 4)) R C := by
  unfold pqG
  rw [gfV_yes (pqM_ok R C k hR hC), pqM_len, pqM_cols _ _ _ (by omega)]
  congr 1
  refine GV_ext (fun i j hi hj => ?_)
  have := low_at3 (k : Int) (R * C) (i * C + j) (place_lt hi hj)
  rw [pqM_at _ _ _ _ _ hi hj]
  omega
def caOk (a b : Int) : Bool := decide (1 ≤ a ∧ a ≤ 6) && (decide (1 ≤ b ∧ b ≤ 6) && decide (a * b ≤ 6))
def caC (a b : Int) : Int := if caOk a b then (rkL (pqB a.toNat b.toNat) (pow4' (a.toNat * b.toNat))).length else 0
theorem caOk_ways {a b : Int} (h : caOk a b = true) : ∃ R C : Nat, a = R ∧ b = C ∧ (1 ≤ R ∧ R ≤ 6) ∧ (1 ≤ C ∧ C ≤ 6) ∧ R * C ≤ 6 := by
  unfold caOk at h
  rw [Bool.and_eq_true, Bool.and_eq_true] at h
  have h1 := of_decide_eq_true h.1
  have h2 := of_decide_eq_true h.2.1
  have h3 := of_decide_eq_true h.2.2
  obtain ⟨R, rfl⟩ := Int.eq_ofNat_of_zero_le (show 0 ≤ a by omega)
  obtain ⟨C, rfl⟩ := Int.eq_ofNat_of_zero_le (show 0 ≤ b by omega)
  exact ⟨R, C, rfl, rfl, by omega, by omega, by exact_mod_cast h3⟩
theorem caOk_nat (R C : Nat) : caOk R C = (decide (1 ≤ R ∧ R ≤ 6) && (decide (1 ≤ C ∧ C ≤ 6) && decide (R * C ≤ 6))) := by
  unfold caOk
  rw [decide_eq_decide.2 (show (1 ≤ (R : Int) ∧ (R : Int) ≤ 6) ↔ (1 ≤ R ∧ R ≤ 6) by omega), decide_eq_decide.2 (show (1 ≤ (C : Int) ∧ (C : Int) ≤ 6) ↔ (1 ≤ C ∧ C ≤ 6) by omega), decide_eq_decide.2 (show ((R : Int) * (C : Int) ≤ 6) ↔ R * C ≤ 6 by exact_mod_cast Iff.rfl)]
end Go.Proofs.Ytjoepdflbbcliab
