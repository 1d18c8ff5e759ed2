/- Helpers of the model's sums of products: tfTwo, phTimes, phPlus, phBar with wide bounds; a sum's block beside another. -/
import Derived.Test.YtfjhocmnafdnfaaSPl
import Derived.Test.YtfjhocmnafdnfaaCvM
import Derived.Test.YtfjhocmnafdnfaaRg
namespace Go.Proofs.Ytfjhocmnafdnfaa
set_option maxRecDepth 100000
open Go.RowKit

set_option maxHeartbeats 1000000 in
theorem phPlusB_any (X Y a b : Int) (h1 : -1000000000000000 ≤ X ∧ X ≤ 1000000000000000) (h2 : -1000000000000000 ≤ Y ∧ Y ≤ 1000000000000000) (h3 : -1000000000000000 ≤ a ∧ a ≤ 1000000000000000) (h4 : -1000000000000000 ≤ b ∧ b ≤ 1000000000000000) (w : World) :
    Calls Try.prog 187 #[.agg #[.int .i64 X, .int .i64 Y], .agg #[.int .i64 a, .int .i64 b]] w (Ret w (.agg #[.int .i64 (X + a), .int .i64 (Y + b)])) := by
  obtain ⟨h11, h12⟩ := h1
  obtain ⟨h21, h22⟩ := h2
  obtain ⟨h31, h32⟩ := h3
  obtain ⟨h41, h42⟩ := h4
  go_enter Try.func187, Try.ntmps187
  go_wp2
  go_returns
  exact ⟨rfl, by go_grown⟩
/-- A sum's block, made since W. -/
structure SB (W : World) (h : Nat) (X Y : Int) (wr : World) : Prop where
  below : Below W.heap.size W wr
  d0 : wr.cell? ⟨h, 0, none⟩ = some (.int .i64 X)
  d1 : wr.cell? ⟨h, 1, none⟩ = some (.int .i64 Y)
  g0 : wr.frozen? ⟨h, 0, none⟩ = false
  g1 : wr.frozen? ⟨h, 1, none⟩ = false
  le : W.heap.size ≤ h
  lt : h < wr.heap.size
theorem SB.step {W w w' : World} {h : Nat} {X Y : Int} (z : SB W h X Y w) (hb : Below w.heap.size w w') : SB W h X Y w' :=
  ⟨joins z.below hb, keepc hb z.d0, keepc hb z.d1, (hb.frozen (p := ⟨h, 0, none⟩) z.lt).trans z.g0, (hb.frozen (p := ⟨h, 1, none⟩) z.lt).trans z.g1, z.le, Nat.lt_of_lt_of_le z.lt hb.size⟩
theorem SB.drew {W w : World} {h : Nat} {X Y : Int} (z : SB W h X Y w) : SB W h X Y w.drew := ⟨belowN z.below 1, z.d0, z.d1, z.g0, z.g1, z.le, z.lt⟩
theorem SB.start (W : World) (T : TypeId) (X Y : Int) : SB W W.heap.size X Y (W.alloc (.cells #[.int .i64 X, .int .i64 Y] T)) :=
  ⟨belowa (Below.refl _ _) _, cell_new0 _ _ _ _, cell_new1 _ _ _ _, World.frozen?_alloc_new .., World.frozen?_alloc_new .., Nat.le_refl _, by simp⟩
theorem SB.store {W w : World} {h : Nat} {X Y : Int} (z : SB W h X Y w) (X1 Y1 : Int) : SB W h X1 Y1 ((w.setCell ⟨h, 0, none⟩ (.int .i64 X1)).setCell ⟨h, 1, none⟩ (.int .i64 Y1)) := by
  refine ⟨belows (belows z.below z.le _) z.le _, ?_, ?_, ?_, ?_, z.le, by simpa using z.lt⟩
  · exact (World.cell?_setCell_other _ _ _ _ (by simp)).trans (World.cell?_setCell_same _ _ _ z.d0)
  · exact World.cell?_setCell_same _ _ _ ((World.cell?_setCell_other _ _ _ _ (by simp)).trans z.d1)
  · simp [go_sem, z.g0]
  · simp [go_sem, z.g1]
/-- A sum's block, another one, and two cells of old. -/
structure SC (W : World) (h : Nat) (X Y : Int) (k : Nat) (x y : Int) (b p : Nat) (u v : Int) (wr : World) : Prop where
  sb : SB W h X Y wr
  e0 : wr.cell? ⟨k, 0, none⟩ = some (.int .i64 x)
  e1 : wr.cell? ⟨k, 1, none⟩ = some (.int .i64 y)
  b0 : wr.cell? ⟨b, p, none⟩ = some (.int .i64 u)
  b1 : wr.cell? ⟨b, p + 1, none⟩ = some (.int .i64 v)
theorem SC.step {W w w' : World} {h k b p : Nat} {X Y x y u v : Int} (z : SC W h X Y k x y b p u v w) (hb : Below w.heap.size w w') : SC W h X Y k x y b p u v w' :=
  ⟨z.sb.step hb, keepc hb z.e0, keepc hb z.e1, keepc hb z.b0, keepc hb z.b1⟩
theorem SC.drew {W w : World} {h k b p : Nat} {X Y x y u v : Int} (z : SC W h X Y k x y b p u v w) : SC W h X Y k x y b p u v w.drew := ⟨z.sb.drew, z.e0, z.e1, z.b0, z.b1⟩
end Go.Proofs.Ytfjhocmnafdnfaa
