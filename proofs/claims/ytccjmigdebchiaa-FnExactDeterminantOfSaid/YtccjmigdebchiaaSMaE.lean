/- The model's ExcessOf. -/
import Derived.Test.YtccjmigdebchiaaSMa
import Derived.Test.YtccjmigdebchiaaMaG
import Derived.Test.YtccjmigdebchiaaSPhS
import Derived.Test.YtccjmigdebchiaaCors
namespace Go.Proofs.Ytccjmigdebchiaa
set_option maxRecDepth 100000
open Go.RowKit

/-- The call's zero block and, somewhere behind it, the block of a sum. -/
structure ZT (w : World) (h : Nat) (X Y : Int) (wr : World) : Prop where
  below : Below w.heap.size w wr
  c0 : wr.cell? ⟨w.heap.size, 0, none⟩ = some (.int .i64 0)
  c1 : wr.cell? ⟨w.heap.size, 1, none⟩ = some (.int .i64 0)
  f0 : wr.frozen? ⟨w.heap.size, 0, none⟩ = false
  f1 : wr.frozen? ⟨w.heap.size, 1, none⟩ = false
  d0 : wr.cell? ⟨h, 0, none⟩ = some (.int .i64 X)
  d1 : wr.cell? ⟨h, 1, none⟩ = some (.int .i64 Y)
  g0 : wr.frozen? ⟨h, 0, none⟩ = false
  g1 : wr.frozen? ⟨h, 1, none⟩ = false
  lt : w.heap.size < h
  size : h < wr.heap.size
theorem ZT.step {w wr w' : World} {h : Nat} {X Y : Int} (z : ZT w h X Y wr) (hb : Below wr.heap.size wr w') : ZT w h X Y w' :=
  ⟨joins z.below hb, keepc hb z.c0, keepc hb z.c1, (hb.frozen (p := ⟨w.heap.size, 0, none⟩) (by have := z.size; have := z.lt; simp; omega)).trans z.f0, (hb.frozen (p := ⟨w.heap.size, 1, none⟩) (by have := z.size; have := z.lt; simp; omega)).trans z.f1,
   keepc hb z.d0, keepc hb z.d1, (hb.frozen (p := ⟨h, 0, none⟩) z.size).trans z.g0, (hb.frozen (p := ⟨h, 1, none⟩) z.size).trans z.g1, z.lt, Nat.lt_of_lt_of_le z.size hb.size⟩
theorem ZT.drew {w wr : World} {h : Nat} {X Y : Int} (z : ZT w h X Y wr) : ZT w h X Y wr.drew :=
  ⟨belowN z.below 1, z.c0, z.c1, z.f0, z.f1, z.d0, z.d1, z.g0, z.g1, z.lt, z.size⟩
theorem ZT.start {w w1 : World} (z : ZG w w1) (T : TypeId) : ZT w w1.heap.size 0 0 (w1.alloc (.cells #[.int .i64 0, .int .i64 0] T)) := by
  have z' := z.step (belowa (Below.refl _ _) (.cells #[.int .i64 0, .int .i64 0] T))
  exact ⟨z'.below, z'.c0, z'.c1, z'.f0, z'.f1, cell_new0 _ _ _ _, cell_new1 _ _ _ _, World.frozen?_alloc_new .., World.frozen?_alloc_new .., z.size, by simp⟩
theorem ZT.store {w wr : World} {h : Nat} {X Y : Int} (z : ZT w h X Y wr) (X1 Y1 : Int) : ZT w h X1 Y1 ((wr.setCell ⟨h, 0, none⟩ (.int .i64 X1)).setCell ⟨h, 1, none⟩ (.int .i64 Y1)) := by
  have hne : ¬ h = w.heap.size := by have := z.lt; omega
  refine ⟨belows (belows z.below (Nat.le_of_lt z.lt) _) (Nat.le_of_lt z.lt) _, keeps (keeps z.c0 (by simpa using hne)) (by simpa using hne), keeps (keeps z.c1 (by simpa using hne)) (by simpa using hne), ?_, ?_, ?_, ?_, ?_, ?_, z.lt, ?_⟩
  · simp [go_sem, z.f0]
  · simp [go_sem, z.f1]
  · exact (World.cell?_setCell_other _ _ _ _ (by simp)).trans (World.cell?_setCell_same _ _ _ z.d0)
  · exact World.cell?_setCell_same _ _ _ ((World.cell?_setCell_other _ _ _ _ (by simp)).trans z.d1)
  · simp [go_sem, z.g0]
  · simp [go_sem, z.g1]
  · simpa using z.size
theorem ZT.ret {w wr : World} {h : Nat} {X Y : Int} (z : ZT w h X Y wr) :
    (wr.setCell ⟨w.heap.size, 0, none⟩ (.int .i64 X)).cell? ⟨w.heap.size, 0, none⟩ = some (.int .i64 X) ∧
    ((wr.setCell ⟨w.heap.size, 0, none⟩ (.int .i64 X)).setCell ⟨w.heap.size, 1, none⟩ (.int .i64 Y)).cell? ⟨w.heap.size, 1, none⟩ = some (.int .i64 Y) ∧
    Below w.heap.size w ((wr.setCell ⟨w.heap.size, 0, none⟩ (.int .i64 X)).setCell ⟨w.heap.size, 1, none⟩ (.int .i64 Y)) := by
  refine ⟨World.cell?_setCell_same _ _ _ z.c0, World.cell?_setCell_same _ _ _ ((World.cell?_setCell_other _ _ _ _ (by simp)).trans z.c1), belows (belows z.below (Nat.le_refl _) _) (Nat.le_refl _) _⟩

def exT (f : Int → Int) (m : List (List Int)) (i : Nat) : Int := sumF f (m.getD i [])
def exS (f : Int → Int) (m : List (List Int)) : Int := sumN (exT f m) m.length
def exA (f : Int → Int) (m : List (List Int)) : Int := if maOk m then exS f m else 0
theorem sumN_le (g : Nat → Int) (B : Int) (n : Nat) (hg : ∀ i, i < n → -B ≤ g i ∧ g i ≤ B) (k : Nat) (hk : k ≤ n) : -(B * k) ≤ sumN g k ∧ sumN g k ≤ B * k := by
  induction k with
  | zero => simp [sumN]
  | succ k ih =>
    have h1 := ih (by omega)
    have h2 := hg k (by omega)
    simp only [sumN]
    rw [show ((k + 1 : Nat) : Int) = (k : Int) + 1 by simp, Int.mul_add]
    omega
end Go.Proofs.Ytccjmigdebchiaa
