/- Sums of values: what the program and the model add up; the block of a result. -/
import Derived.Test.YtodgalflngfnpaaCx
import Derived.Test.YtodgalflngfnpaaCell
import Derived.Test.YtodgalflngfnpaaSeq
namespace Go.Proofs.Ytodgalflngfnpaa
set_option maxRecDepth 100000
open Go.RowKit

def sumF (f : Int → Int) : List Int → Int
  | [] => 0
  | x :: t => f x + sumF f t
theorem sumF_take_succ (f : Int → Int) (l : List Int) (k : Nat) (h : k < l.length) : sumF f (l.take (k + 1)) = sumF f (l.take k) + f (l.getD k 0) := by
  induction l generalizing k with
  | nil => simp at h
  | cons x t ih =>
    cases k with
    | zero => simp [sumF]
    | succ k =>
      simp only [List.take_succ_cons, sumF, List.getD_cons_succ]
      rw [ih k (by simpa using h)]
      omega
theorem sumF_bound (f : Int → Int) (hf : ∀ x, -1 ≤ f x ∧ f x ≤ 1) (l : List Int) : -(l.length : Int) ≤ sumF f l ∧ sumF f l ≤ l.length := by
  induction l with
  | nil => simp [sumF]
  | cons x t ih =>
    have := hf x
    simp only [sumF, List.length_cons]
    omega
theorem sum_small (f : Int → Int) (hf : ∀ x, -1 ≤ f x ∧ f x ≤ 1) (l : List Int) (h : l.length ≤ 32) (k : Nat) (hk : k ≤ l.length) : -32 ≤ sumF f (l.take k) ∧ sumF f (l.take k) ≤ 32 := by
  have := sumF_bound f hf (l.take k)
  rw [List.length_take] at this
  omega
def sumX (l : List Int) : Int := if isSeq l then sumF vx l else 0
def sumY (l : List Int) : Int := if isSeq l then sumF vy l else 0
theorem run_sum (w : World) (t : TypeId) (X Y a b : Int) (h1 : -33 ≤ X) (h2 : X ≤ 33) (h3 : -33 ≤ Y) (h4 : Y ≤ 33) (h5 : -1 ≤ a ∧ a ≤ 1) (h6 : -1 ≤ b ∧ b ≤ 1) :
    (binOp .add t (.complex .f32 (f32of X) (f32of Y)) (.complex .f32 (f32of a) (f32of b))).run Try.prog w = .ok (.complex .f32 (f32of (X + a)) (f32of (Y + b))) w :=
  run_complex_sum w .add (Or.inl rfl) t .f32 _ _ _ _ _ _ (by unfold cSumBits; rw [f32_add X a h1 h2 h5.1 h5.2, f32_add Y b h3 h4 h6.1 h6.2]; rfl)

/-- The call's zero Gauss block, at the first place behind w, and w below. -/
structure ZG (w wr : World) : Prop where
  below : Below w.heap.size w wr
  c0 : wr.cell? ⟨w.heap.size, 0, none⟩ = some (.int .i64 0)
  c1 : wr.cell? ⟨w.heap.size, 1, none⟩ = some (.int .i64 0)
  f0 : wr.frozen? ⟨w.heap.size, 0, none⟩ = false
  f1 : wr.frozen? ⟨w.heap.size, 1, none⟩ = false
  size : w.heap.size < wr.heap.size
theorem ZG.start (w : World) (T : TypeId) : ZG w (w.alloc (.cells #[.int .i64 0, .int .i64 0] T)) :=
  ⟨belowa (Below.refl _ _) _, cell_new0 _ _ _ _, cell_new1 _ _ _ _, World.frozen?_alloc_new .., World.frozen?_alloc_new .., by simp⟩
theorem ZG.step {w wr w' : World} (h : ZG w wr) (hb : Below wr.heap.size wr w') : ZG w w' :=
  ⟨joins h.below hb, keepc hb h.c0, keepc hb h.c1, (hb.frozen (p := ⟨w.heap.size, 0, none⟩) h.size).trans h.f0, (hb.frozen (p := ⟨w.heap.size, 1, none⟩) h.size).trans h.f1, Nat.lt_of_lt_of_le h.size hb.size⟩
theorem ZG.ret {w w1 : World} (h : ZG w w1) (p q : Value) :
    (w1.setCell ⟨w.heap.size, 0, none⟩ p).cell? ⟨w.heap.size, 0, none⟩ = some p ∧
    ((w1.setCell ⟨w.heap.size, 0, none⟩ p).setCell ⟨w.heap.size, 1, none⟩ q).cell? ⟨w.heap.size, 1, none⟩ = some q ∧
    Below w.heap.size w ((w1.setCell ⟨w.heap.size, 0, none⟩ p).setCell ⟨w.heap.size, 1, none⟩ q) := by
  refine ⟨World.cell?_setCell_same _ _ _ h.c0, World.cell?_setCell_same _ _ _ ((World.cell?_setCell_other _ _ _ _ (by simp)).trans h.c1), belows (belows h.below (Nat.le_refl _) _) (Nat.le_refl _) _⟩
theorem IS.step {w wr : World} {v : Value} {l : List Int} (h : IS w v l) (hz : ZG w wr) : IS wr v l := h.below hz.below

end Go.Proofs.Ytodgalflngfnpaa
