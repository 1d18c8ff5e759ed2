/- New blocks of two numbers. -/
import Derived.Test.YtgjdaeaiheibbabDoorKit
namespace Go.Proofs.YtgjdaeaiheibbabDoor
set_option maxRecDepth 100000
open Go.RowKit

/-- A new block of two numbers. -/
structure TN (B : Nat) (x y : Value) (g : Nat) (wr : World) : Prop where
  low : B ≤ g
  lt : g < wr.heap.size
  n0 : wr.cell? ⟨g, 0, none⟩ = some x
  n1 : wr.cell? ⟨g, 1, none⟩ = some y
  m0 : wr.frozen? ⟨g, 0, none⟩ = false
  m1 : wr.frozen? ⟨g, 1, none⟩ = false
theorem TN.new {B : Nat} {W : World} (h : B ≤ W.heap.size) (x y : Value) (T : TypeId) : TN B x y W.heap.size (W.alloc (.cells #[x, y] T)) :=
  ⟨h, by simp, cell_new0 _ _ _ _, cell_new1 _ _ _ _, World.frozen?_alloc_new .., World.frozen?_alloc_new ..⟩
theorem TN.drew {B g : Nat} {x y : Value} {wr : World} (h : TN B x y g wr) : TN B x y g wr.drew := ⟨h.low, h.lt, h.n0, h.n1, h.m0, h.m1⟩
theorem TN.step {B g : Nat} {x y : Value} {wr w' : World} (h : TN B x y g wr) (hb : Below wr.heap.size wr w') : TN B x y g w' :=
  ⟨h.low, Nat.lt_of_lt_of_le h.lt hb.size, keepc hb h.n0, keepc hb h.n1, (hb.frozen (p := ⟨g, 0, none⟩) h.lt).trans h.m0, (hb.frozen (p := ⟨g, 1, none⟩) h.lt).trans h.m1⟩
theorem TN.alloc {B g : Nat} {x y : Value} {wr : World} (h : TN B x y g wr) (o : Obj) : TN B x y g (wr.alloc o) := h.step (belowa (Below.refl _ _) _)
theorem TN.put {B g : Nat} {x y : Value} {wr : World} (h : TN B x y g wr) (u v : Value) : TN B u v g ((wr.setCell ⟨g, 0, none⟩ u).setCell ⟨g, 1, none⟩ v) := by
  refine ⟨h.low, by simpa using h.lt, (World.cell?_setCell_other _ _ _ _ (by simp)).trans (World.cell?_setCell_same _ _ _ h.n0), World.cell?_setCell_same _ _ _ ((World.cell?_setCell_other _ _ _ _ (by simp)).trans h.n1), ?_, ?_⟩
  · simp [go_sem, h.m0]
  · simp [go_sem, h.m1]

theorem TN.set {B g : Nat} {x y : Value} {wr : World} (h : TN B x y g wr) {k j : Nat} (hk : k ≠ g) (u : Value) : TN B x y g (wr.setCell ⟨k, j, none⟩ u) := by
  refine ⟨h.low, by simpa using h.lt, keeps h.n0 (by simpa using hk), keeps h.n1 (by simpa using hk), ?_, ?_⟩
  · simp [go_sem, h.m0]
  · simp [go_sem, h.m1]
theorem TN.mk' {B g : Nat} {W : World} (hg : g = W.heap.size) (h : B ≤ W.heap.size) (x y : Value) (T : TypeId) : TN B x y g (W.alloc (.cells #[x, y] T)) := by
  subst hg
  exact TN.new h x y T
/-- Writing the two numbers of a result into its block. -/
theorem TN.ret {B g : Nat} {x y : Value} {w wr : World} (h : TN B x y g wr) (hw : w.heap.size ≤ g) (hb : Below w.heap.size w wr) (u v : Value) :
    (wr.setCell ⟨g, 0, none⟩ u).cell? ⟨g, 0, none⟩ = some u ∧
    ((wr.setCell ⟨g, 0, none⟩ u).setCell ⟨g, 1, none⟩ v).cell? ⟨g, 1, none⟩ = some v ∧
    Below w.heap.size w ((wr.setCell ⟨g, 0, none⟩ u).setCell ⟨g, 1, none⟩ v) :=
  ⟨World.cell?_setCell_same _ _ _ h.n0, World.cell?_setCell_same _ _ _ ((World.cell?_setCell_other _ _ _ _ (by simp)).trans h.n1), belows (belows hb hw _) hw _⟩
end Go.Proofs.YtgjdaeaiheibbabDoor
