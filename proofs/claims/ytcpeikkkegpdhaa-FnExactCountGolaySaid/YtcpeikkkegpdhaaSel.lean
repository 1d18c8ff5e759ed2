/- The numbers below k of a property, in order: plain mathematics. -/
import Derived.Test.YtcpeikkkegpdhaaBarM
namespace Go.Proofs.Ytcpeikkkegpdhaa

set_option maxRecDepth 100000
def selL (p : Nat → Bool) : Nat → List Nat
  | 0 => []
  | k + 1 => if p k then selL p k ++ [k] else selL p k
theorem selL_yes {p : Nat → Bool} {k : Nat} (h : p k = true) : selL p (k + 1) = selL p k ++ [k] := by simp [selL, h]
theorem selL_no {p : Nat → Bool} {k : Nat} (h : p k = false) : selL p (k + 1) = selL p k := by simp [selL, h]
theorem selL_len (p : Nat → Bool) (k : Nat) : (selL p k).length ≤ k := by
  induction k with
  | zero => simp [selL]
  | succ k ih => simp only [selL]; split <;> (try simp) <;> omega
theorem selL_mem (p : Nat → Bool) (k : Nat) : ∀ r ∈ selL p k, r < k ∧ p r = true := by
  induction k with
  | zero => simp [selL]
  | succ k ih =>
    intro r hr
    simp only [selL] at hr
    split at hr
    · rename_i hp
      rw [List.mem_append] at hr
      rcases hr with h | h
      · have := ih r h; exact ⟨by omega, this.2⟩
      · simp at h; subst h; exact ⟨by omega, hp⟩
    · have := ih r hr; exact ⟨by omega, this.2⟩
theorem selL_head (p : Nat → Bool) : ∀ (d k : Nat) (r : Nat) (t : List Nat), selL p k = r :: t → ∃ t', selL p (k + d) = r :: t'
  | 0, _, _, t, h => ⟨t, h⟩
  | d + 1, k, r, t, h => by
    obtain ⟨t', h'⟩ := selL_head p d k r t h
    show ∃ t', selL p (k + d + 1) = r :: t'
    cases hp : p (k + d) with
    | true => rw [selL_yes hp, h']; exact ⟨t' ++ [k + d], rfl⟩
    | false => rw [selL_no hp, h']; exact ⟨t', rfl⟩
theorem selL_ext (p q : Nat → Bool) (k : Nat) (h : ∀ i, i < k → p i = q i) : selL p k = selL q k := by
  induction k with
  | zero => rfl
  | succ k ih => simp only [selL]; rw [ih (fun i hi => h i (by omega)), h k (by omega)]
/-- The first number of a list. -/
theorem selL_first (p : Nat → Bool) (k r : Nat) (t : List Nat) (h : selL p k = r :: t) : p r = true ∧ r < k := by
  have := selL_mem p k r (by rw [h]; simp)
  exact ⟨this.2, this.1⟩
end Go.Proofs.Ytcpeikkkegpdhaa
