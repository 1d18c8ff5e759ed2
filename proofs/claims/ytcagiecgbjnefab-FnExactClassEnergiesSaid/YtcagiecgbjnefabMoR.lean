/- Rows of whole numbers that are set one by one: RowI. -/
import Derived.Test.YtcagiecgbjnefabUpI
import Derived.Test.YtcagiecgbjnefabMoM
import Derived.Test.YtcagiecgbjnefabMov
import Derived.Test.YtcagiecgbjnefabSCr
import Derived.Test.YtcagiecgbjnefabApps
namespace Go.Proofs.Ytcagiecgbjnefab
set_option maxRecDepth 100000
open Go.RowKit

/-- A row of the call's own, of n whole numbers. -/
def RowI (w : World) (B g n : Nat) (T : Nat → Int) : Prop := w.ownsRow B 3 1 (.slice (some ⟨g, 0, none⟩) n n) n ((gen n T).map (Value.int .i64))
theorem RowI.below {w w' : World} {B g n : Nat} {T : Nat → Int} (h : RowI w B g n T) (hb : Below w.heap.size w w') : RowI w' B g n T := rowBelow h hb
theorem RowI.lt {w : World} {B g n : Nat} {T : Nat → Int} (h : RowI w B g n T) : B ≤ g ∧ g < w.heap.size := World.ownsRow.lt h g rfl
theorem RowI.cell {w : World} {B g n : Nat} {T : Nat → Int} (h : RowI w B g n T) (i : Nat) (hi : i < n) : w.cell? ⟨g, i, none⟩ = some (.int .i64 (T i)) := by
  rw [h.cellAt i (by omega)]
  simp [gen, hi]
theorem RowI.frozen {w : World} {B g n : Nat} {T : Nat → Int} (h : RowI w B g n T) (i : Nat) : w.frozen? ⟨g, i, none⟩ = false := World.ownsRow.frozenAt h i
theorem RowI.set {w : World} {B g n k : Nat} {T : Nat → Int} (h : RowI w B g n (upI k T)) (hk : k < n) : RowI (w.setCell ⟨g, k, none⟩ (.int .i64 (T k))) B g n (upI (k + 1) T) := by
  have := (World.ownsRow.stored h k (.int .i64 (T k))).1
  rwa [upI_set n k T hk] at this
theorem RowI.own {w : World} {B g n : Nat} {T : Nat → Int} (h : RowI w B g n (upI n T)) : Own w B (.slice (some ⟨g, 0, none⟩) n n) (gen n T) := by
  unfold RowI at h
  rw [upI_all] at h
  unfold Own
  rw [gen_length]
  exact h
theorem RowI.made {w : World} {B g n : Nat} (T : Nat → Int) (h : w.ownsRow B 3 1 (.slice (some ⟨g, 0, none⟩) n n) n (List.replicate n (Value.int .i64 0))) : RowI w B g n (upI 0 T) := by
  unfold RowI
  rw [upI_zero, List.map_replicate]
  exact h
end Go.Proofs.Ytcagiecgbjnefab
