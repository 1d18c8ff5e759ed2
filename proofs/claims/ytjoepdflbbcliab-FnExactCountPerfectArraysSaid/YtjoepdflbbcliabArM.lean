/- Arrays of phases: plain mathematics. -/
import Derived.Test.YtjoepdflbbcliabMaM
namespace Go.Proofs.Ytjoepdflbbcliab

set_option maxRecDepth 100000
def sideB (n : Nat) : Bool := decide (1 ≤ n ∧ n ≤ 8)
def colsOf (m : List (List Int)) : Nat := (m.getD 0 []).length
def arOk (m : List (List Int)) : Bool := sideB m.length && (sideB (colsOf m) && m.all (rowOk (colsOf m)))
theorem arOk_parts {m : List (List Int)} (h : arOk m = true) : (1 ≤ m.length ∧ m.length ≤ 8) ∧ (1 ≤ colsOf m ∧ colsOf m ≤ 8) ∧ ∀ i, i < m.length → (m.getD i []).length = colsOf m ∧ allIn (m.getD i []) 0 3 = true := by
  unfold arOk at h
  rw [Bool.and_eq_true, Bool.and_eq_true] at h
  refine ⟨of_decide_eq_true h.1, of_decide_eq_true h.2.1, fun i hi => ?_⟩
  have := List.all_eq_true.1 h.2.2 (m.getD i []) (by rw [getD_at m i hi]; exact List.getElem_mem hi)
  unfold rowOk at this
  rw [Bool.and_eq_true] at this
  exact ⟨of_decide_eq_true this.1, this.2⟩
theorem arOk_rows {m : List (List Int)} (h : sideB m.length = false) : arOk m = false := by unfold arOk; rw [h]; rfl
theorem arOk_cols {m : List (List Int)} (h : sideB (colsOf m) = false) : arOk m = false := by unfold arOk; rw [h]; simp
theorem arOk_row {m : List (List Int)} (i : Nat) (hi : i < m.length) (h : rowOk (colsOf m) (m.getD i []) = false) : arOk m = false := by
  have : m.all (rowOk (colsOf m)) = false := by
    rw [List.all_eq_false]
    exact ⟨m.getD i [], by rw [getD_at m i hi]; exact List.getElem_mem hi, by rw [h]; exact Bool.false_ne_true⟩
  unfold arOk; rw [this]; simp
theorem arOk_yes {m : List (List Int)} (h : sideB m.length = true) (h1 : sideB (colsOf m) = true) (h2 : ∀ i, i < m.length → rowOk (colsOf m) (m.getD i []) = true) : arOk m = true := by
  unfold arOk
  rw [h, h1, Bool.true_and, Bool.true_and, List.all_eq_true]
  intro r hr
  obtain ⟨i, hi, rfl⟩ := List.getElem_of_mem hr
  rw [← getD_at m i hi]
  exact h2 i hi
theorem inB_side (n : Nat) : inB (n : Int) 1 8 = sideB n := by unfold inB sideB; rw [← Bool.decide_and]; exact decide_eq_decide.2 (by omega)
theorem sideB_in {n : Nat} (h : sideB n = true) : 1 ≤ n ∧ n ≤ 8 := of_decide_eq_true h
end Go.Proofs.Ytjoepdflbbcliab
