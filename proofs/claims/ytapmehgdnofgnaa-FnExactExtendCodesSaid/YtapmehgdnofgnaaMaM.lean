/- Matrices of phases: plain mathematics. -/
import Derived.Test.YtapmehgdnofgnaaRw
import Derived.Test.YtapmehgdnofgnaaKit
namespace Go.Proofs.Ytapmehgdnofgnaa

set_option maxRecDepth 100000
def rowOk (n : Nat) (r : List Int) : Bool := decide (r.length = n) && allIn r 0 3
def maOk (m : List (List Int)) : Bool := decide (1 ≤ m.length ∧ m.length ≤ 8) && m.all (rowOk m.length)
theorem maOk_parts {m : List (List Int)} (h : maOk m = true) : (1 ≤ m.length ∧ m.length ≤ 8) ∧ ∀ i, i < m.length → (m.getD i []).length = m.length ∧ allIn (m.getD i []) 0 3 = true := by
  unfold maOk at h
  rw [Bool.and_eq_true] at h
  refine ⟨of_decide_eq_true h.1, fun i hi => ?_⟩
  have := List.all_eq_true.1 h.2 (m.getD i []) (by rw [getD_at m i hi]; exact List.getElem_mem hi)
  unfold rowOk at this
  rw [Bool.and_eq_true] at this
  exact ⟨of_decide_eq_true this.1, this.2⟩
theorem maOk_size {m : List (List Int)} (h : ¬ (1 ≤ m.length ∧ m.length ≤ 8)) : maOk m = false := by unfold maOk; rw [decide_eq_false h]; rfl
theorem maOk_row {m : List (List Int)} (i : Nat) (hi : i < m.length) (h : rowOk m.length (m.getD i []) = false) : maOk m = false := by
  have : m.all (rowOk m.length) = false := by
    rw [List.all_eq_false]
    exact ⟨m.getD i [], by rw [getD_at m i hi]; exact List.getElem_mem hi, by rw [h]; exact Bool.false_ne_true⟩
  unfold maOk; rw [this, Bool.and_false]
theorem maOk_yes {m : List (List Int)} (h : 1 ≤ m.length ∧ m.length ≤ 8) (h2 : ∀ i, i < m.length → rowOk m.length (m.getD i []) = true) : maOk m = true := by
  unfold maOk
  rw [decide_eq_true h, Bool.true_and, List.all_eq_true]
  intro r hr
  obtain ⟨i, hi, rfl⟩ := List.getElem_of_mem hr
  rw [← getD_at m i hi]
  exact h2 i hi
theorem maOk_seq {m : List (List Int)} (h : maOk m = true) (i : Nat) (hi : i < m.length) : isSeq (m.getD i []) = true := by
  have h1 := maOk_parts h
  have h2 := h1.2 i hi
  exact isSeq_of (by omega) h2.2
def maRow (m : List (List Int)) (i : Int) : Bool := maOk m && inB i 0 (m.length - 1)
end Go.Proofs.Ytapmehgdnofgnaa
