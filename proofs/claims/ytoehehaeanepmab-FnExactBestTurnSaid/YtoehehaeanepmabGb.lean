/- Blocks of one Gaussian number that stay as they are. -/
import Derived.Test.YtoehehaeanepmabSCvH
import Derived.Test.YtoehehaeanepmabRg
namespace Go.Proofs.Ytoehehaeanepmab
set_option maxRecDepth 100000
open Go.RowKit

/-- A block of one Gaussian number, made since a world of S blocks. -/
structure GB (S p : Nat) (X Y : Int) (w : World) : Prop where
  ge : S ≤ p
  lt : p < w.heap.size
  d0 : w.cell? ⟨p, 0, none⟩ = some (.int .i64 X)
  d1 : w.cell? ⟨p, 1, none⟩ = some (.int .i64 Y)
  g0 : w.frozen? ⟨p, 0, none⟩ = false
  g1 : w.frozen? ⟨p, 1, none⟩ = false
theorem GB.step {S p : Nat} {X Y : Int} {w w' : World} (z : GB S p X Y w) (hb : Below w.heap.size w w') : GB S p X Y w' :=
  ⟨z.ge, Nat.lt_of_lt_of_le z.lt hb.size, keepc hb z.d0, keepc hb z.d1, (hb.frozen (p := ⟨p, 0, none⟩) z.lt).trans z.g0, (hb.frozen (p := ⟨p, 1, none⟩) z.lt).trans z.g1⟩
theorem GB.start (S : Nat) (w : World) (X Y : Int) (T : TypeId) (h : S ≤ w.heap.size) : GB S w.heap.size X Y (w.alloc (.cells #[.int .i64 X, .int .i64 Y] T)) :=
  ⟨h, by simp, cell_new0 _ _ _ _, cell_new1 _ _ _ _, World.frozen?_alloc_new .., World.frozen?_alloc_new ..⟩
theorem GB.store {S p : Nat} {X Y : Int} {w : World} (z : GB S p X Y w) (X1 Y1 : Int) : GB S p X1 Y1 ((w.setCell ⟨p, 0, none⟩ (.int .i64 X1)).setCell ⟨p, 1, none⟩ (.int .i64 Y1)) := by
  refine ⟨z.ge, by simpa using z.lt, ?_, ?_, ?_, ?_⟩
  · exact (World.cell?_setCell_other _ _ _ _ (by simp)).trans (World.cell?_setCell_same _ _ _ z.d0)
  · exact World.cell?_setCell_same _ _ _ ((World.cell?_setCell_other _ _ _ _ (by simp)).trans z.d1)
  · simp [go_sem, z.g0]
  · simp [go_sem, z.g1]
theorem GB.other {S p q : Nat} {X Y : Int} {w : World} (z : GB S p X Y w) (h : p ≠ q) (v1 v2 : Value) : GB S p X Y ((w.setCell ⟨q, 0, none⟩ v1).setCell ⟨q, 1, none⟩ v2) := by
  refine ⟨z.ge, by simpa using z.lt, ?_, ?_, ?_, ?_⟩
  · exact keeps (keeps z.d0 (show q ≠ p from fun e => h e.symm)) (show q ≠ p from fun e => h e.symm)
  · exact keeps (keeps z.d1 (show q ≠ p from fun e => h e.symm)) (show q ≠ p from fun e => h e.symm)
  · simp [go_sem, z.g0]
  · simp [go_sem, z.g1]
theorem grownFr {W w : World} {row : Option Nat} {g : Nat} (hg : W.grownBy w row) (hge : W.heap.size ≤ g) (o : Nat) (v : Value) : W.grownBy (w.setCell ⟨g, o, none⟩ v) row := by
  refine ⟨hg.os, hg.tape, hg.output, by simpa using hg.size, fun k hk hne => ?_⟩
  exact (heap_setCell_other w ⟨g, o, none⟩ k v (fun e => by have e2 : k = g := e; omega)).trans (hg.block k hk hne)
end Go.Proofs.Ytoehehaeanepmab
