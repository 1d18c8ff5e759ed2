/- Codes and signals of messages: plain mathematics. -/
import Derived.Test.YtapmehgdnofgnaaRw
import Derived.Test.YtapmehgdnofgnaaKit
namespace Go.Proofs.Ytapmehgdnofgnaa

set_option maxRecDepth 100000
/-- A code. -/
def cdOk (s : List Int) : Bool := isSeq s && decide (1 ≤ s.length)
/-- The number of phases of codes. -/
def cdN (m : List (List Int)) : Nat := (m.getD 0 []).length
def cdRow (n : Nat) (s : List Int) : Bool := cdOk s && decide (s.length = n)
def cdsOk (m : List (List Int)) : Bool := decide (1 ≤ m.length ∧ m.length ≤ 8) && m.all (cdRow (cdN m))
theorem cdsOk_size {m : List (List Int)} (h : ¬ (1 ≤ m.length ∧ m.length ≤ 8)) : cdsOk m = false := by unfold cdsOk; rw [decide_eq_false h]; rfl
theorem cdsOk_row {m : List (List Int)} (i : Nat) (hi : i < m.length) (h : cdRow (cdN m) (m.getD i []) = false) : cdsOk m = false := by
  have : m.all (cdRow (cdN m)) = false := by
    rw [List.all_eq_false]
    exact ⟨m.getD i [], by rw [getD_at m i hi]; exact List.getElem_mem hi, by rw [h]; exact Bool.false_ne_true⟩
  unfold cdsOk; rw [this, Bool.and_false]
theorem cdsOk_yes {m : List (List Int)} (h : 1 ≤ m.length ∧ m.length ≤ 8) (h2 : ∀ i, i < m.length → cdRow (cdN m) (m.getD i []) = true) : cdsOk m = true := by
  unfold cdsOk
  rw [decide_eq_true h, Bool.true_and, List.all_eq_true]
  intro r hr
  obtain ⟨i, hi, rfl⟩ := List.getElem_of_mem hr
  rw [← getD_at m i hi]
  exact h2 i hi
theorem cdsOk_parts {m : List (List Int)} (h : cdsOk m = true) : (1 ≤ m.length ∧ m.length ≤ 8) ∧ ∀ i, i < m.length → cdOk (m.getD i []) = true ∧ (m.getD i []).length = cdN m := by
  unfold cdsOk at h
  rw [Bool.and_eq_true] at h
  refine ⟨of_decide_eq_true h.1, fun i hi => ?_⟩
  have := List.all_eq_true.1 h.2 (m.getD i []) (by rw [getD_at m i hi]; exact List.getElem_mem hi)
  unfold cdRow at this
  rw [Bool.and_eq_true] at this
  exact ⟨this.1, of_decide_eq_true this.2⟩
theorem cdOk_seq {s : List Int} (h : cdOk s = true) : isSeq s = true ∧ 1 ≤ s.length := by
  unfold cdOk at h
  rw [Bool.and_eq_true] at h
  exact ⟨h.1, of_decide_eq_true h.2⟩
theorem cdOk_len {s : List Int} (h : cdOk s = true) : 1 ≤ s.length ∧ s.length ≤ 32 := ⟨(cdOk_seq h).2, isSeq_len (cdOk_seq h).1⟩
theorem cdN_len {m : List (List Int)} (h : cdsOk m = true) : 1 ≤ cdN m ∧ cdN m ≤ 32 := by
  have h1 := cdsOk_parts h
  have h2 := cdOk_len (h1.2 0 (by omega)).1
  exact h2
/-- Which refusal. -/
def kOf (ok : Bool) : Nat := if ok then 0 else 1
theorem kOf_true : kOf true = 0 := rfl
theorem kOf_false : kOf false = 1 := rfl
theorem kOf_zero {b : Bool} : (kOf b == 0) = b := by cases b <;> rfl
end Go.Proofs.Ytapmehgdnofgnaa
