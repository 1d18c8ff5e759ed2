/- The model's sums of values. -/
import Derived.Test.YtfjhocmnafdnfaaCors
namespace Go.Proofs.Ytfjhocmnafdnfaa
set_option maxRecDepth 100000
open Go.RowKit

set_option maxHeartbeats 1000000 in
theorem phValue_any (k : Int) (h1 : 0 ≤ k) (h2 : k ≤ 3) (w : World) : Calls Try.prog 188 #[.int .i64 k] w (Ret w (.agg #[.int .i64 (vx k), .int .i64 (vy k)])) := by
  have hk : k = 0 ∨ k = 1 ∨ k = 2 ∨ k = 3 := by omega
  rcases hk with rfl | rfl | rfl | rfl
  all_goals
    clear h1 h2
    go_enter Try.func188, Try.ntmps188
    go_wp2
    go_returns
    exact ⟨rfl, by go_grown⟩

set_option maxHeartbeats 1000000 in
theorem phPlus_any (X Y a b : Int) (h1 : -2000000 ≤ X ∧ X ≤ 2000000) (h2 : -2000000 ≤ Y ∧ Y ≤ 2000000) (h3 : -2000000 ≤ a ∧ a ≤ 2000000) (h4 : -2000000 ≤ b ∧ b ≤ 2000000) (w : World) : Calls Try.prog 187 #[.agg #[.int .i64 X, .int .i64 Y], .agg #[.int .i64 a, .int .i64 b]] w (Ret w (.agg #[.int .i64 (X + a), .int .i64 (Y + b)])) := by
  obtain ⟨h11, h12⟩ := h1
  obtain ⟨h21, h22⟩ := h2
  obtain ⟨h31, h32⟩ := h3
  obtain ⟨h41, h42⟩ := h4
  go_enter Try.func187, Try.ntmps187
  go_wp2
  go_returns
  exact ⟨rfl, by go_grown⟩

/-- Two zero Gauss blocks of the call, the second of which holds a sum. -/
structure ZS (w : World) (X Y : Int) (wr : World) : Prop where
  below : Below w.heap.size w wr
  c0 : wr.cell? ⟨w.heap.size, 0, none⟩ = some (.int .i64 0)
  c1 : wr.cell? ⟨w.heap.size, 1, none⟩ = some (.int .i64 0)
  f0 : wr.frozen? ⟨w.heap.size, 0, none⟩ = false
  f1 : wr.frozen? ⟨w.heap.size, 1, none⟩ = false
  d0 : wr.cell? ⟨w.heap.size + 1, 0, none⟩ = some (.int .i64 X)
  d1 : wr.cell? ⟨w.heap.size + 1, 1, none⟩ = some (.int .i64 Y)
  g0 : wr.frozen? ⟨w.heap.size + 1, 0, none⟩ = false
  g1 : wr.frozen? ⟨w.heap.size + 1, 1, none⟩ = false
  size : w.heap.size + 1 < wr.heap.size
theorem ZS.step {w wr w' : World} {X Y : Int} (h : ZS w X Y wr) (hb : Below wr.heap.size wr w') : ZS w X Y w' :=
  ⟨joins h.below hb, keepc hb h.c0, keepc hb h.c1, (hb.frozen (p := ⟨w.heap.size, 0, none⟩) (by have := h.size; simp; omega)).trans h.f0, (hb.frozen (p := ⟨w.heap.size, 1, none⟩) (by have := h.size; simp; omega)).trans h.f1,
   keepc hb h.d0, keepc hb h.d1, (hb.frozen (p := ⟨w.heap.size + 1, 0, none⟩) h.size).trans h.g0, (hb.frozen (p := ⟨w.heap.size + 1, 1, none⟩) h.size).trans h.g1, Nat.lt_of_lt_of_le h.size hb.size⟩
theorem ZS.drew {w wr : World} {X Y : Int} (h : ZS w X Y wr) : ZS w X Y wr.drew :=
  ⟨belowN h.below 1, h.c0, h.c1, h.f0, h.f1, h.d0, h.d1, h.g0, h.g1, h.size⟩

theorem ZS.start (w : World) (T : TypeId) : ZS w 0 0 ((w.alloc (.cells #[.int .i64 0, .int .i64 0] T)).alloc (.cells #[.int .i64 0, .int .i64 0] T)) := by
  have h := ZG.start w T
  have hb : Below (w.alloc (.cells #[.int .i64 0, .int .i64 0] T)).heap.size (w.alloc (.cells #[.int .i64 0, .int .i64 0] T)) ((w.alloc (.cells #[.int .i64 0, .int .i64 0] T)).alloc (.cells #[.int .i64 0, .int .i64 0] T)) := belowa (Below.refl _ _) _
  have h' := h.step hb
  have e : (w.alloc (.cells #[.int .i64 0, .int .i64 0] T)).heap.size = w.heap.size + 1 := by simp
  refine ⟨h'.below, h'.c0, h'.c1, h'.f0, h'.f1, ?_, ?_, ?_, ?_, by simp⟩
  · rw [← e]; exact cell_new0 _ _ _ _
  · rw [← e]; exact cell_new1 _ _ _ _
  · rw [← e]; exact World.frozen?_alloc_new ..
  · rw [← e]; exact World.frozen?_alloc_new ..
theorem ZS.store {w wr : World} {X Y : Int} (h : ZS w X Y wr) (X1 Y1 : Int) : ZS w X1 Y1 ((wr.setCell ⟨w.heap.size + 1, 0, none⟩ (.int .i64 X1)).setCell ⟨w.heap.size + 1, 1, none⟩ (.int .i64 Y1)) := by
  refine ⟨belows (belows h.below (Nat.le_succ _) _) (Nat.le_succ _) _, keeps (keeps h.c0 (by simp)) (by simp), keeps (keeps h.c1 (by simp)) (by simp), ?_, ?_, ?_, ?_, ?_, ?_, ?_⟩
  · simp [go_sem, h.f0]
  · simp [go_sem, h.f1]
  · exact (World.cell?_setCell_other _ _ _ _ (by simp)).trans (World.cell?_setCell_same _ _ _ h.d0)
  · exact World.cell?_setCell_same _ _ _ ((World.cell?_setCell_other _ _ _ _ (by simp)).trans h.d1)
  · simp [go_sem, h.g0]
  · simp [go_sem, h.g1]
  · simpa using h.size
theorem ZS.ret {w wr : World} {X Y : Int} (h : ZS w X Y wr) :
    (wr.setCell ⟨w.heap.size, 0, none⟩ (.int .i64 X)).cell? ⟨w.heap.size, 0, none⟩ = some (.int .i64 X) ∧
    ((wr.setCell ⟨w.heap.size, 0, none⟩ (.int .i64 X)).setCell ⟨w.heap.size, 1, none⟩ (.int .i64 Y)).cell? ⟨w.heap.size, 1, none⟩ = some (.int .i64 Y) ∧
    Below w.heap.size w ((wr.setCell ⟨w.heap.size, 0, none⟩ (.int .i64 X)).setCell ⟨w.heap.size, 1, none⟩ (.int .i64 Y)) := by
  refine ⟨World.cell?_setCell_same _ _ _ h.c0, World.cell?_setCell_same _ _ _ ((World.cell?_setCell_other _ _ _ _ (by simp)).trans h.c1), belows (belows h.below (Nat.le_refl _) _) (Nat.le_refl _) _⟩

end Go.Proofs.Ytfjhocmnafdnfaa
