/- Helpers of the model's sums of products: tfTwo, phTimes, phPlus, phBar with wide bounds; a sum's block beside another. -/
import Derived.Test.YtapmehgdnofgnabSPl
import Derived.Test.YtapmehgdnofgnabCvM
import Derived.Test.YtapmehgdnofgnabRg
namespace Go.Proofs.Ytapmehgdnofgnab
set_option maxRecDepth 100000
open Go.RowKit

set_option maxHeartbeats 1000000 in
theorem phTimesB_any (x y u v : Int) (h1 : -1000000 ≤ x ∧ x ≤ 1000000) (h2 : -1000000 ≤ y ∧ y ≤ 1000000) (h3 : -1000000 ≤ u ∧ u ≤ 1000000) (h4 : -1000000 ≤ v ∧ v ≤ 1000000) (w : World) :
    Calls Try.prog 57 #[.agg #[.int .i64 x, .int .i64 y], .agg #[.int .i64 u, .int .i64 v]] w (Ret w (.agg #[.int .i64 (mulX x y u v), .int .i64 (mulY x y u v)])) := by
  have p1 := prod_le x u h1 h3
  have p2 := prod_le y v h2 h4
  have p3 := prod_le x v h1 h4
  have p4 := prod_le y u h2 h3
  have e1 : mulX x y u v = x * u - y * v := rfl
  have e2 : mulY x y u v = x * v + y * u := rfl
  rw [e1, e2]
  obtain ⟨A, hA⟩ : ∃ A, A = x * u := ⟨_, rfl⟩
  obtain ⟨C, hC⟩ : ∃ A, A = y * v := ⟨_, rfl⟩
  obtain ⟨E, hE⟩ : ∃ A, A = x * v := ⟨_, rfl⟩
  obtain ⟨F, hF⟩ : ∃ A, A = y * u := ⟨_, rfl⟩
  rw [← hA] at p1 ⊢
  rw [← hC] at p2 ⊢
  rw [← hE] at p3 ⊢
  rw [← hF] at p4 ⊢
  have wA : wrap64 (x * u) = A := by rw [← hA]; exact IntWalk.wrap64_in A ⟨by omega, by omega⟩
  have wC : wrap64 (y * v) = C := by rw [← hC]; exact IntWalk.wrap64_in C ⟨by omega, by omega⟩
  have wE : wrap64 (x * v) = E := by rw [← hE]; exact IntWalk.wrap64_in E ⟨by omega, by omega⟩
  have wF : wrap64 (y * u) = F := by rw [← hF]; exact IntWalk.wrap64_in F ⟨by omega, by omega⟩
  have wS : wrap64 (A - C) = A - C := IntWalk.wrap64_in _ ⟨by omega, by omega⟩
  have wT : wrap64 (E + F) = E + F := IntWalk.wrap64_in _ ⟨by omega, by omega⟩
  clear hA hC hE hF h1 h2 h3 h4 e1 e2 p1 p2 p3 p4
  go_enter Try.func57, Try.ntmps57
  go_wp2
  go_returns
  exact ⟨rfl, by go_grown⟩
set_option maxHeartbeats 1000000 in
theorem phPlusB_any (X Y a b : Int) (h1 : -1000000000000000 ≤ X ∧ X ≤ 1000000000000000) (h2 : -1000000000000000 ≤ Y ∧ Y ≤ 1000000000000000) (h3 : -1000000000000000 ≤ a ∧ a ≤ 1000000000000000) (h4 : -1000000000000000 ≤ b ∧ b ≤ 1000000000000000) (w : World) :
    Calls Try.prog 65 #[.agg #[.int .i64 X, .int .i64 Y], .agg #[.int .i64 a, .int .i64 b]] w (Ret w (.agg #[.int .i64 (X + a), .int .i64 (Y + b)])) := by
  obtain ⟨h11, h12⟩ := h1
  obtain ⟨h21, h22⟩ := h2
  obtain ⟨h31, h32⟩ := h3
  obtain ⟨h41, h42⟩ := h4
  go_enter Try.func65, Try.ntmps65
  go_wp2
  go_returns
  exact ⟨rfl, by go_grown⟩
/-- A sum's block, made since W. -/
structure SB (W : World) (h : Nat) (X Y : Int) (wr : World) : Prop where
  below : Below W.heap.size W wr
  d0 : wr.cell? ⟨h, 0, none⟩ = some (.int .i64 X)
  d1 : wr.cell? ⟨h, 1, none⟩ = some (.int .i64 Y)
  g0 : wr.frozen? ⟨h, 0, none⟩ = false
  g1 : wr.frozen? ⟨h, 1, none⟩ = false
  le : W.heap.size ≤ h
  lt : h < wr.heap.size
theorem SB.step {W w w' : World} {h : Nat} {X Y : Int} (z : SB W h X Y w) (hb : Below w.heap.size w w') : SB W h X Y w' :=
  ⟨joins z.below hb, keepc hb z.d0, keepc hb z.d1, (hb.frozen (p := ⟨h, 0, none⟩) z.lt).trans z.g0, (hb.frozen (p := ⟨h, 1, none⟩) z.lt).trans z.g1, z.le, Nat.lt_of_lt_of_le z.lt hb.size⟩
theorem SB.drew {W w : World} {h : Nat} {X Y : Int} (z : SB W h X Y w) : SB W h X Y w.drew := ⟨belowN z.below 1, z.d0, z.d1, z.g0, z.g1, z.le, z.lt⟩
theorem SB.start (W : World) (T : TypeId) (X Y : Int) : SB W W.heap.size X Y (W.alloc (.cells #[.int .i64 X, .int .i64 Y] T)) :=
  ⟨belowa (Below.refl _ _) _, cell_new0 _ _ _ _, cell_new1 _ _ _ _, World.frozen?_alloc_new .., World.frozen?_alloc_new .., Nat.le_refl _, by simp⟩
theorem SB.store {W w : World} {h : Nat} {X Y : Int} (z : SB W h X Y w) (X1 Y1 : Int) : SB W h X1 Y1 ((w.setCell ⟨h, 0, none⟩ (.int .i64 X1)).setCell ⟨h, 1, none⟩ (.int .i64 Y1)) := by
  refine ⟨belows (belows z.below z.le _) z.le _, ?_, ?_, ?_, ?_, z.le, by simpa using z.lt⟩
  · exact (World.cell?_setCell_other _ _ _ _ (by simp)).trans (World.cell?_setCell_same _ _ _ z.d0)
  · exact World.cell?_setCell_same _ _ _ ((World.cell?_setCell_other _ _ _ _ (by simp)).trans z.d1)
  · simp [go_sem, z.g0]
  · simp [go_sem, z.g1]
/-- A sum's block, another one, and two cells of old. -/
structure SC (W : World) (h : Nat) (X Y : Int) (k : Nat) (x y : Int) (b p : Nat) (u v : Int) (wr : World) : Prop where
  sb : SB W h X Y wr
  e0 : wr.cell? ⟨k, 0, none⟩ = some (.int .i64 x)
  e1 : wr.cell? ⟨k, 1, none⟩ = some (.int .i64 y)
  b0 : wr.cell? ⟨b, p, none⟩ = some (.int .i64 u)
  b1 : wr.cell? ⟨b, p + 1, none⟩ = some (.int .i64 v)
theorem SC.step {W w w' : World} {h k b p : Nat} {X Y x y u v : Int} (z : SC W h X Y k x y b p u v w) (hb : Below w.heap.size w w') : SC W h X Y k x y b p u v w' :=
  ⟨z.sb.step hb, keepc hb z.e0, keepc hb z.e1, keepc hb z.b0, keepc hb z.b1⟩
theorem SC.drew {W w : World} {h k b p : Nat} {X Y x y u v : Int} (z : SC W h X Y k x y b p u v w) : SC W h X Y k x y b p u v w.drew := ⟨z.sb.drew, z.e0, z.e1, z.b0, z.b1⟩
end Go.Proofs.Ytapmehgdnofgnab
