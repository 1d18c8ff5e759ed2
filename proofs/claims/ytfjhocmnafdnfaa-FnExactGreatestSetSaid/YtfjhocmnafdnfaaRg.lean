/- Cells in worlds that a region that draws its order holds. -/
import Derived.Test.YtfjhocmnafdnfaaPhs
namespace Go.Proofs.Ytfjhocmnafdnfaa
set_option maxRecDepth 100000
open Go.RowKit

theorem cellR {W w : World} {row : Option Nat} {a : Addr} {v : Value} (hg : W.grownBy w row) (h : W.cell? a = some v) (hne : row ≠ some a.block) : w.cell? a = some v := by
  have hb := hg.block a.block (World.block_lt_of_cell? W a h) (fun e => hne e.symm)
  unfold World.cell? at h ⊢
  rw [hb]
  exact h
theorem grownSet {W w : World} {g : Nat} (hg : W.grownBy w (some g)) (o : Nat) (v : Value) : W.grownBy (w.setCell ⟨g, o, none⟩ v) (some g) := by
  refine ⟨hg.os, hg.tape, hg.output, by simpa using hg.size, fun k hk hne => ?_⟩
  exact (heap_setCell_other w ⟨g, o, none⟩ k v (fun e => hne (by rw [e]))).trans (hg.block k hk hne)
end Go.Proofs.Ytfjhocmnafdnfaa
