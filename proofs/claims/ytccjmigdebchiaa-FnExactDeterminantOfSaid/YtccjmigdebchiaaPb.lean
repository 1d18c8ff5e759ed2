/- Blocks of one Gaussian number, beside a result's and a sum's. -/
import Derived.Test.YtccjmigdebchiaaSMaE
import Derived.Test.YtccjmigdebchiaaRg
namespace Go.Proofs.Ytccjmigdebchiaa
set_option maxRecDepth 100000
open Go.RowKit

/-- A block of one Gaussian number, made since a world of S blocks. -/
structure PB (S p : Nat) (X Y : Int) (w : World) : Prop where
  ge : S ≤ p
  lt : p < w.heap.size
  d0 : w.cell? ⟨p, 0, none⟩ = some (.int .i64 X)
  d1 : w.cell? ⟨p, 1, none⟩ = some (.int .i64 Y)
  g0 : w.frozen? ⟨p, 0, none⟩ = false
  g1 : w.frozen? ⟨p, 1, none⟩ = false
theorem PB.step {S p : Nat} {X Y : Int} {w w' : World} (z : PB S p X Y w) (hb : Below w.heap.size w w') : PB S p X Y w' :=
  ⟨z.ge, Nat.lt_of_lt_of_le z.lt hb.size, keepc hb z.d0, keepc hb z.d1, (hb.frozen (p := ⟨p, 0, none⟩) z.lt).trans z.g0, (hb.frozen (p := ⟨p, 1, none⟩) z.lt).trans z.g1⟩
theorem PB.start (S : Nat) (w : World) (T : TypeId) (h : S ≤ w.heap.size) : PB S w.heap.size 0 0 (w.alloc (.cells #[.int .i64 0, .int .i64 0] T)) :=
  ⟨h, by simp, cell_new0 _ _ _ _, cell_new1 _ _ _ _, World.frozen?_alloc_new .., World.frozen?_alloc_new ..⟩
theorem PB.store {S p : Nat} {X Y : Int} {w : World} (z : PB S p X Y w) (X1 Y1 : Int) : PB S p X1 Y1 ((w.setCell ⟨p, 0, none⟩ (.int .i64 X1)).setCell ⟨p, 1, none⟩ (.int .i64 Y1)) := by
  refine ⟨z.ge, by simpa using z.lt, ?_, ?_, ?_, ?_⟩
  · exact (World.cell?_setCell_other _ _ _ _ (by simp)).trans (World.cell?_setCell_same _ _ _ z.d0)
  · exact World.cell?_setCell_same _ _ _ ((World.cell?_setCell_other _ _ _ _ (by simp)).trans z.d1)
  · simp [go_sem, z.g0]
  · simp [go_sem, z.g1]
theorem ZT.other {w wr : World} {h S p : Nat} {X Y : Int} (z : ZT w h X Y wr) (hp : S ≤ p) (hS : h < S) (X1 Y1 : Int) : ZT w h X Y ((wr.setCell ⟨p, 0, none⟩ (.int .i64 X1)).setCell ⟨p, 1, none⟩ (.int .i64 Y1)) := by
  have hl := z.lt
  have hsz := z.size
  have n1 : ¬ p = w.heap.size := by omega
  have n2 : ¬ p = h := by omega
  refine ⟨belows (belows z.below (show w.heap.size ≤ p by omega) _) (show w.heap.size ≤ p by omega) _, keeps (keeps z.c0 (by simpa using n1)) (by simpa using n1), keeps (keeps z.c1 (by simpa using n1)) (by simpa using n1), ?_, ?_, keeps (keeps z.d0 (by simpa using n2)) (by simpa using n2), keeps (keeps z.d1 (by simpa using n2)) (by simpa using n2), ?_, ?_, z.lt, by simpa using hsz⟩
  · simp [go_sem, z.f0]
  · simp [go_sem, z.f1]
  · simp [go_sem, z.g0]
  · simp [go_sem, z.g1]
theorem grownFresh {W w : World} {row : Option Nat} {g : Nat} (hg : W.grownBy w row) (hge : W.heap.size ≤ g) (o : Nat) (v : Value) : W.grownBy (w.setCell ⟨g, o, none⟩ v) row := by
  refine ⟨hg.os, hg.tape, hg.output, by simpa using hg.size, fun k hk hne => ?_⟩
  exact (heap_setCell_other w ⟨g, o, none⟩ k v (fun e => by have e2 : k = g := e; omega)).trans (hg.block k hk hne)
end Go.Proofs.Ytccjmigdebchiaa
