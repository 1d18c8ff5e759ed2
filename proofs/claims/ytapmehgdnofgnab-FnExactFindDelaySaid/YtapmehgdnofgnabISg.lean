/- The program's signals out of lists of Gaussian numbers: gaussValue, signalOf. -/
import Derived.Test.YtapmehgdnofgnabSg
namespace Go.Proofs.Ytapmehgdnofgnab
set_option maxRecDepth 100000
open Go.RowKit

def fb (x : Int) : Nat := floatOfInt .f32 x
set_option maxHeartbeats 1000000 in
theorem gaussValue_any (x y : Int) (w : World) : Calls Try.prog 63 #[.agg #[.int .i64 x, .int .i64 y]] w (Ret w (.complex .f32 (fb x) (fb y))) := by
  go_enter Try.func63, Try.ntmps63
  go_wp2
  go_returns
  exact ⟨rfl, by go_grown⟩
def fbC (X Y : Nat → Int) : Nat → Nat × Nat := fun i => (fb (X i), fb (Y i))
theorem fbC_ok (X Y : Nat → Int) (n : Nat) (h : ∀ i, i < n → good (X i) (Y i) = true) : CZ (fbC X Y) X Y n := fun i hi => by
  have := good_in (h i hi)
  have ht : topF .f32 = 16777216 := by decide
  exact ⟨FN_ofInt .f32 _ (by rw [ht]; omega), FN_ofInt .f32 _ (by rw [ht]; omega)⟩
/-- The first k numbers are there, the others zero. -/
def upC (k : Nat) (D : Nat → Nat × Nat) : Nat → Nat × Nat := fun i => if i < k then D i else (0, 0)
theorem upC_set (k : Nat) (D : Nat → Nat × Nat) : setC (upC k D) k (D k) = upC (k + 1) D := by
  funext i
  unfold setC upC
  by_cases e : i = k
  · subst e; simp
  · rw [if_neg e]
    by_cases h : i < k
    · rw [if_pos h, if_pos (by omega)]
    · rw [if_neg h, if_neg (by omega)]
theorem upC_zero (D : Nat → Nat × Nat) : upC 0 D = fun _ => (0, 0) := by
  funext i; unfold upC; rw [if_neg (Nat.not_lt_zero _)]
theorem upC_all (n : Nat) (D : Nat → Nat × Nat) : cxL n (upC n D) = cxL n D := cxL_ext (fun i h => by unfold upC; rw [if_pos h])
/-- A call that makes a signal of n numbers, if it is well. -/
def MakesC (w : World) (n : Nat) (C : Nat → Nat × Nat) (ok : Bool) (e : Ending) (w' : World) : Prop :=
  Below w.heap.size w w' ∧ ((ok = true ∧ ∃ g, e = .returned (.tuple #[.slice (some ⟨g, 0, none⟩) n n, .bool true]) ∧ RowC w' w.heap.size g n C) ∨ (ok = false ∧ e = .returned (.tuple #[.slice none 0 0, .bool false])))

end Go.Proofs.Ytapmehgdnofgnab
