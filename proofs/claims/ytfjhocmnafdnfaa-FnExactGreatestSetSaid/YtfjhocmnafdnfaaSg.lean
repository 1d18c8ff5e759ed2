/- Signals of the program: rows of complex64 numbers that stand for Gaussian numbers. -/
import Derived.Test.YtfjhocmnafdnfaaTfM
import Derived.Test.YtfjhocmnafdnfaaFxA
import Derived.Test.YtfjhocmnafdnfaaCors
namespace Go.Proofs.Ytfjhocmnafdnfaa
set_option maxRecDepth 100000
open Go.RowKit

theorem infoC : (Try.prog.info? 102).map (fun i => (i.zero, i.size, i.bytes)) = some (some (.complex .f32 0 0), 1, 8) := by kernel_rfl
/-- The cells of n numbers. -/
def cxL (n : Nat) (C : Nat → Nat × Nat) : List Value := (List.range n).map fun i => Value.complex .f32 (C i).1 (C i).2
theorem cxL_length (n : Nat) (C : Nat → Nat × Nat) : (cxL n C).length = n := by simp [cxL]
theorem cxL_get (n : Nat) (C : Nat → Nat × Nat) (i : Nat) (h : i < n) : (cxL n C)[i]? = some (.complex .f32 (C i).1 (C i).2) := by simp [cxL, h]
theorem cxL_ext {n : Nat} {C D : Nat → Nat × Nat} (h : ∀ i, i < n → C i = D i) : cxL n C = cxL n D := by
  unfold cxL
  apply List.map_congr_left
  intro i hi
  rw [h i (List.mem_range.1 hi)]
def setC (C : Nat → Nat × Nat) (j : Nat) (b : Nat × Nat) : Nat → Nat × Nat := fun i => if i = j then b else C i
theorem cxL_set (n : Nat) (C : Nat → Nat × Nat) (j : Nat) (b : Nat × Nat) : (cxL n C).set j (.complex .f32 b.1 b.2) = cxL n (setC C j b) := by
  apply List.ext_getElem?
  intro i
  by_cases hi : i < n
  · by_cases e : i = j
    · subst e
      rw [List.getElem?_set_self (by rw [cxL_length]; exact hi), cxL_get _ _ _ hi]
      simp [setC]
    · rw [List.getElem?_set_ne (fun h => e h.symm), cxL_get _ _ _ hi, cxL_get _ _ _ hi]
      simp [setC, e]
  · rw [List.getElem?_eq_none (by rw [List.length_set, cxL_length]; omega), List.getElem?_eq_none (by rw [cxL_length]; omega)]
theorem cx_zeros (n : Nat) : (madeCells #[Value.complex .f32 0 0] n).toList = cxL n (fun _ => (0, 0)) := by
  apply List.ext_getElem
  · simp [madeCells, cxL]
  · intro i h1 h2
    simp [madeCells, Nat.mod_one, cxL]
/-- A row of the call's own, of n numbers. -/
def RowC (w : World) (B g n : Nat) (C : Nat → Nat × Nat) : Prop := w.ownsRow B 102 1 (.slice (some ⟨g, 0, none⟩) n n) n (cxL n C)
theorem RowC.below {w w' : World} {B g n : Nat} {C : Nat → Nat × Nat} (h : RowC w B g n C) (hb : Below w.heap.size w w') : RowC w' B g n C := rowBelow h hb
theorem RowC.cell {w : World} {B g n : Nat} {C : Nat → Nat × Nat} (h : RowC w B g n C) (i : Nat) (hi : i < n) : w.cell? ⟨g, i, none⟩ = some (.complex .f32 (C i).1 (C i).2) := by
  rw [h.cellAt i (by omega), cxL_get _ _ _ hi]
theorem RowC.lt {w : World} {B g n : Nat} {C : Nat → Nat × Nat} (h : RowC w B g n C) : B ≤ g ∧ g < w.heap.size := World.ownsRow.lt h g rfl
theorem RowC.set {w : World} {B g n : Nat} {C : Nat → Nat × Nat} (h : RowC w B g n C) (j : Nat) (b : Nat × Nat) : RowC (w.setCell ⟨g, j, none⟩ (.complex .f32 b.1 b.2)) B g n (setC C j b) := by
  have := (World.ownsRow.stored h j (.complex .f32 b.1 b.2)).1
  rw [cxL_set] at this
  exact this
theorem RowC.grown {w w' : World} {B g n : Nat} {C : Nat → Nat × Nat} {g' : Nat} (h : RowC w B g n C) (hg : w.grownBy w' (some g')) (hne : g ≠ g') : RowC w' B g n C :=
  World.ownsRow.kept h hg (Or.inr (fun e => hne (by simpa [Value.ownBlock] using e)))
theorem RowC.mono {w : World} {B B' g n : Nat} {C : Nat → Nat × Nat} (h : RowC w B g n C) (hB : B' ≤ B) : RowC w B' g n C := rowMono h hB
/-- The numbers stand for the Gaussian numbers X i and Y i. -/
def CZ (C : Nat → Nat × Nat) (X Y : Nat → Int) (n : Nat) : Prop := ∀ i, i < n → FK .f32 (C i).1 (X i) ∧ FK .f32 (C i).2 (Y i)

/-! ### lengths -/
def tfZ (n : Int) : Bool := decide (n = 1 ∨ n = 4 ∨ n = 16)
theorem tfZ_nat (n : Nat) : tfZ n = tfSz n := by
  unfold tfZ tfSz
  rw [decide_eq_decide]
  omega
def waZ (n : Int) : Bool := decide (n = 1 ∨ n = 2 ∨ n = 4 ∨ n = 8 ∨ n = 16 ∨ n = 32)
end Go.Proofs.Ytfjhocmnafdnfaa
