/- Which lists are sequences: the model's phIs, the program's IsSequence. -/
import Derived.Test.YtmckophclehkpaaDoorLawKit
namespace Go.Proofs.YtmckophclehkpaaDoor
open Go.RowKit

/-- A call that turns nothing. -/
def Pure (w : World) (v : Value) (e : Ending) (w' : World) : Prop := e = .returned v ∧ w = w'
def inB (n lo hi : Int) : Bool := decide (lo ≤ n) && decide (n ≤ hi)
def allIn (l : List Int) (lo hi : Int) : Bool := l.all (fun n => inB n lo hi)
def isSeq (l : List Int) : Bool := decide (l.length ≤ 32) && allIn l 0 3

theorem allIn_take_succ (l : List Int) (lo hi : Int) (k : Nat) (h : k < l.length) (h1 : allIn (l.take k) lo hi = true) (h2 : inB (l.getD k 0) lo hi = true) : allIn (l.take (k + 1)) lo hi = true := by
  unfold allIn at *
  rw [List.take_succ_eq_append_getElem h, List.all_append, h1]
  simpa [List.getD, h] using h2
theorem allIn_false (l : List Int) (lo hi : Int) (k : Nat) (h : k < l.length) (h2 : inB (l.getD k 0) lo hi = false) : allIn l lo hi = false := by
  unfold allIn
  rw [List.all_eq_false]
  exact ⟨l[k], List.getElem_mem h, by simpa [List.getD, h] using h2⟩
theorem allIn_mem {l : List Int} {lo hi : Int} (h : allIn l lo hi = true) : ∀ z ∈ l, lo ≤ z ∧ z ≤ hi := by
  intro z hz
  have := List.all_eq_true.1 h z hz
  simpa [inB] using this
theorem allIn_getD {l : List Int} {lo hi : Int} (h : allIn l lo hi = true) (k : Nat) (hk : k < l.length) : lo ≤ l.getD k 0 ∧ l.getD k 0 ≤ hi := by
  have := allIn_mem h l[k] (List.getElem_mem hk)
  simpa [List.getD, hk] using this
theorem isSeq_len {l : List Int} (h : isSeq l = true) : l.length ≤ 32 := by simp [isSeq] at h; exact h.1
theorem isSeq_all {l : List Int} (h : isSeq l = true) : allIn l 0 3 = true := by simp [isSeq] at h; exact h.2
theorem isSeq_of {l : List Int} (h1 : l.length ≤ 32) (h2 : allIn l 0 3 = true) : isSeq l = true := by simp [isSeq, h1, h2]

set_option maxHeartbeats 400000 in
theorem l1In_any (n lo hi : Int) (w : World) : Calls Tryd.prog 11 #[.int .i64 n, .int .i64 lo, .int .i64 hi] w (Pure w (.bool (inB n lo hi))) := by
  go_enter Tryd.func11, Tryd.ntmps11
  go_wp2
  all_goals
    go_ret
    exact ⟨ret_bool (by simp only [inB]; simp; omega), rfl⟩

/-! ### the program's IsSequence -/
end Go.Proofs.YtmckophclehkpaaDoor
