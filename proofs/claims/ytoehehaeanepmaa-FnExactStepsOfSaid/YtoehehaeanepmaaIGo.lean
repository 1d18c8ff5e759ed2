/- The program's IsGolay and AreMates. -/
import Derived.Test.YtoehehaeanepmaaIPs
import Derived.Test.YtoehehaeanepmaaIAp
namespace Go.Proofs.Ytoehehaeanepmaa
set_option maxRecDepth 100000
open Go.RowKit

theorem pr_facts (a b : List Int) : isSeq (pL a b) = true ∧ isSeq (pR a b) = true ∧ (pL a b).length = (pR a b).length := by
  cases h : pairOk a b with
  | true =>
    have := pairOk_parts h
    unfold pL pR; rw [h]; exact this
  | false => unfold pL pR; rw [h]; exact ⟨rfl, rfl, rfl⟩
theorem pr_ok (a b : List Int) : decide (1 ≤ (pL a b).length) = goOk a b := by
  unfold pL goOk bothB
  cases h : pairOk a b with
  | true =>
    have h' := h
    unfold pairOk at h
    rw [h, Bool.true_and]; rfl
  | false =>
    unfold pairOk at h
    rw [h]; rfl
theorem pr_yes {a b : List Int} (h : goOk a b = true) : pL a b = a ∧ pR a b = b := by
  have h2 : pairOk a b = true := by
    unfold goOk bothB at h
    rw [Bool.and_eq_true] at h
    exact h.1
  unfold pL pR; rw [h2]; exact ⟨rfl, rfl⟩
theorem pr_golay (a b : List Int) : (decide (1 ≤ (pL a b).length) && goB (pL a b) (pR a b)) = (goOk a b && goB a b) := by
  rw [pr_ok]
  cases h : goOk a b with
  | true => rw [(pr_yes h).1, (pr_yes h).2]
  | false => rfl
end Go.Proofs.Ytoehehaeanepmaa
