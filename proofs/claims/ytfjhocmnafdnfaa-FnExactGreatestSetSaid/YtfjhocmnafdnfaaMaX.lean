/- Matrices of phases: plain mathematics. Matrices made by their index: plain. -/
import Derived.Test.YtfjhocmnafdnfaaRw
import Derived.Test.YtfjhocmnafdnfaaKit
import Derived.Test.YtfjhocmnafdnfaaPhs
namespace Go.Proofs.Ytfjhocmnafdnfaa
set_option maxRecDepth 100000
section

def rowOk (n : Nat) (r : List Int) : Bool := decide (r.length = n) && allIn r 0 3
def maOk (m : List (List Int)) : Bool := decide (1 ≤ m.length ∧ m.length ≤ 8) && m.all (rowOk m.length)
theorem maOk_parts {m : List (List Int)} (h : maOk m = true) : (1 ≤ m.length ∧ m.length ≤ 8) ∧ ∀ i, i < m.length → (m.getD i []).length = m.length ∧ allIn (m.getD i []) 0 3 = true := by
  unfold maOk at h
  rw [Bool.and_eq_true] at h
  refine ⟨of_decide_eq_true h.1, fun i hi => ?_⟩
  have := List.all_eq_true.1 h.2 (m.getD i []) (by rw [getD_at m i hi]; exact List.getElem_mem hi)
  unfold rowOk at this
  rw [Bool.and_eq_true] at this
  exact ⟨of_decide_eq_true this.1, this.2⟩
theorem maOk_size {m : List (List Int)} (h : ¬ (1 ≤ m.length ∧ m.length ≤ 8)) : maOk m = false := by unfold maOk; rw [decide_eq_false h]; rfl
theorem maOk_row {m : List (List Int)} (i : Nat) (hi : i < m.length) (h : rowOk m.length (m.getD i []) = false) : maOk m = false := by
  have : m.all (rowOk m.length) = false := by
    rw [List.all_eq_false]
    exact ⟨m.getD i [], by rw [getD_at m i hi]; exact List.getElem_mem hi, by rw [h]; exact Bool.false_ne_true⟩
  unfold maOk; rw [this, Bool.and_false]
theorem maOk_yes {m : List (List Int)} (h : 1 ≤ m.length ∧ m.length ≤ 8) (h2 : ∀ i, i < m.length → rowOk m.length (m.getD i []) = true) : maOk m = true := by
  unfold maOk
  rw [decide_eq_true h, Bool.true_and, List.all_eq_true]
  intro r hr
  obtain ⟨i, hi, rfl⟩ := List.getElem_of_mem hr
  rw [← getD_at m i hi]
  exact h2 i hi
theorem maOk_seq {m : List (List Int)} (h : maOk m = true) (i : Nat) (hi : i < m.length) : isSeq (m.getD i []) = true := by
  have h1 := maOk_parts h
  have h2 := h1.2 i hi
  exact isSeq_of (by omega) h2.2
def maRow (m : List (List Int)) (i : Int) : Bool := maOk m && inB i 0 (m.length - 1)
end
section

def genR (n : Nat) (R : Nat → List Int) : List (List Int) := (List.range n).map R
theorem genR_length (n : Nat) (R : Nat → List Int) : (genR n R).length = n := by simp [genR]
theorem genR_succ (n : Nat) (R : Nat → List Int) : genR (n + 1) R = genR n R ++ [R n] := by simp [genR, List.range_succ]
theorem genR_getD (n : Nat) (R : Nat → List Int) (i : Nat) (h : i < n) : (genR n R).getD i [] = R i := by simp [genR, List.getD, h]
theorem genR_ext {n : Nat} {R R' : Nat → List Int} (e : ∀ i, i < n → R i = R' i) : genR n R = genR n R' := by
  unfold genR
  apply List.map_congr_left
  intro i hi
  exact e i (List.mem_range.1 hi)
theorem genR_self (m : List (List Int)) : genR m.length (fun i => m.getD i []) = m := by
  apply List.ext_getElem?
  intro i
  by_cases h : i < m.length
  · simp [genR, List.getD, h]
  · rw [List.getElem?_eq_none (by rw [genR_length]; omega), List.getElem?_eq_none (by omega)]
theorem tot_genR (n L : Nat) (R : Nat → List Int) (h : ∀ i, i < n → (R i).length ≤ L) : tot (genR n R) ≤ n * L := by
  induction n with
  | zero => simp [genR, tot]
  | succ n ih =>
    rw [genR_succ, tot_append]
    have h1 := ih (fun i hi => h i (by omega))
    have h2 := h n (by omega)
    simp only [tot]
    rw [Nat.add_mul]
    omega
/-- A list of lists, read by its index. -/
def atM (m : List (List Int)) (i j : Nat) : Int := (m.getD i []).getD j 0
def ovL (m : List (List Int)) : List (List Int) := genR m.length (fun j => gen m.length (fun i => atM m i j))
theorem ovL_length (m : List (List Int)) : (ovL m).length = m.length := genR_length _ _
/-- Square: every row is as long as there are rows. -/
def sqM (m : List (List Int)) : Prop := ∀ i, i < m.length → (m.getD i []).length = m.length
theorem maOk_sq {m : List (List Int)} (h : maOk m = true) : sqM m := fun i hi => ((maOk_parts h).2 i hi).1
theorem maOk_le {m : List (List Int)} (h : maOk m = true) : m.length ≤ 8 := (maOk_parts h).1.2
theorem ovL_sq (m : List (List Int)) : sqM (ovL m) := fun i hi => by
  rw [ovL_length] at hi ⊢
  unfold ovL
  rw [genR_getD _ _ _ hi, gen_length]
/-- A square of phases. -/
def phM (m : List (List Int)) : Prop := ∀ i j, i < m.length → j < m.length → 0 ≤ atM m i j ∧ atM m i j ≤ 3
theorem maOk_ph {m : List (List Int)} (h : maOk m = true) : phM m := fun i j hi hj => allIn_getD ((maOk_parts h).2 i hi).2 j (by rw [maOk_sq h i hi]; exact hj)
theorem atM_ov (m : List (List Int)) (i j : Nat) (hi : i < m.length) (hj : j < m.length) : atM (ovL m) i j = atM m j i := by
  show ((ovL m).getD i []).getD j 0 = _
  unfold ovL
  rw [genR_getD _ _ _ hi, gen_getD _ _ _ hj]
theorem allIn_of (l : List Int) (lo hi : Int) (h : ∀ j, j < l.length → lo ≤ l.getD j 0 ∧ l.getD j 0 ≤ hi) : allIn l lo hi = true := by
  unfold allIn
  rw [List.all_eq_true]
  intro x hx
  obtain ⟨j, hj, rfl⟩ := List.getElem_of_mem hx
  have := h j hj
  simp [List.getD, hj] at this
  simp [inB, this]
theorem maOk_of {m : List (List Int)} (h1 : 1 ≤ m.length ∧ m.length ≤ 8) (h2 : sqM m) (h3 : phM m) : maOk m = true :=
  maOk_yes h1 (fun i hi => by
    unfold rowOk
    rw [h2 i hi, allIn_of _ _ _ (fun j hj => by rw [h2 i hi] at hj; exact h3 i j hi hj)]
    simp)
theorem maOk_ov {m : List (List Int)} (h : maOk m = true) : maOk (ovL m) = true :=
  maOk_of (by rw [ovL_length]; exact (maOk_parts h).1) (ovL_sq m) (fun i j hi hj => by
    rw [ovL_length] at hi hj
    rw [atM_ov m i j hi hj]
    exact maOk_ph h j i hj hi)
theorem sq_tot {m : List (List Int)} (h : sqM m) (h8 : m.length ≤ 8) : tot m ≤ 64 := by
  have h1 := tot_genR m.length m.length (fun i => m.getD i []) (fun i hi => Nat.le_of_eq (h i hi))
  rw [genR_self] at h1
  have : m.length * m.length ≤ 8 * 8 := Nat.mul_le_mul h8 h8
  omega
end
end Go.Proofs.Ytfjhocmnafdnfaa
