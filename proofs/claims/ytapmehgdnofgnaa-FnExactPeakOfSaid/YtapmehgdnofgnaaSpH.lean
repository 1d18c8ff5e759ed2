/- Signals that are heard, peaks: plain mathematics. -/
import Derived.Test.YtapmehgdnofgnaaSpT
namespace Go.Proofs.Ytapmehgdnofgnaa
set_option maxRecDepth 100000
open Go.RowKit

/-- A signal of messages. -/
def hdOk (l : List (Int × Int)) : Bool := decide (l.length ≤ 64) && goodL l
theorem hdOk_len {l : List (Int × Int)} (h : hdOk l = true) : l.length ≤ 64 := by unfold hdOk at h; rw [Bool.and_eq_true] at h; exact of_decide_eq_true h.1
theorem hdOk_good {l : List (Int × Int)} (h : hdOk l = true) : goodL l = true := by unfold hdOk at h; rw [Bool.and_eq_true] at h; exact h.2
theorem goodL_all8 (l : List (Int × Int)) (h : ∀ i, i < l.length → good (gre l i) (gim l i) = true) : goodL l = true := by
  unfold goodL
  rw [List.all_eq_true]
  intro p hp
  obtain ⟨i, hi, rfl⟩ := List.getElem_of_mem hp
  have := h i hi
  simpa [gre, gim, List.getD, hi] using this
def nmN (l : List (Int × Int)) (i : Nat) : Int := norm (gre l i) (gim l i)
def pkV (l : List (Int × Int)) : Int := maxN (nmN l) l.length
def pkF (l : List (Int × Int)) : Int := if hdOk l then pkV l else 0
end Go.Proofs.Ytapmehgdnofgnaa
