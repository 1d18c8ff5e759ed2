/- Signals of the program: rows of complex64 numbers that stand for Gaussian numbers. -/
import Derived.Test.YtccjmigdebchiaaTfM
import Derived.Test.YtccjmigdebchiaaFx
import Derived.Test.YtccjmigdebchiaaCors
namespace Go.Proofs.Ytccjmigdebchiaa
set_option maxRecDepth 100000
open Go.RowKit

theorem infoC : (Try.prog.info? 47).map (fun i => (i.zero, i.size, i.bytes)) = some (some (.complex .f32 0 0), 1, 8) := by kernel_rfl
/-- The cells of n numbers. -/
def cxL (n : Nat) (C : Nat → Nat × Nat) : List Value := (List.range n).map fun i => Value.complex .f32 (C i).1 (C i).2
theorem cxL_length (n : Nat) (C : Nat → Nat × Nat) : (cxL n C).length = n := by simp [cxL]
theorem cxL_get (n : Nat) (C : Nat → Nat × Nat) (i : Nat) (h : i < n) : (cxL n C)[i]? = some (.complex .f32 (C i).1 (C i).2) := by simp [cxL, h]
theorem cxL_ext {n : Nat} {C D : Nat → Nat × Nat} (h : ∀ i, i < n → C i = D i) : cxL n C = cxL n D := by
  unfold cxL
  apply List.map_congr_left
  intro i hi
  rw [h i (List.mem_range.1 hi)]
def setC (C : Nat → Nat × Nat) (j : Nat) (b : Nat × Nat) : Nat → Nat × Nat := fun i => if i = j then b else C i
theorem cxL_set (n : Nat) (C : Nat → Nat × Nat) (j : Nat) (b : Nat × Nat) : (cxL n C).set j (.complex .f32 b.1 b.2) = cxL n (setC C j b) := by
  apply List.ext_getElem?
  intro i
  by_cases hi : i < n
  · by_cases e : i = j
    · subst e
      rw [List.getElem?_set_self (by rw [cxL_length]; exact hi), cxL_get _ _ _ hi]
      simp [setC]
    · rw [List.getElem?_set_ne (fun h => e h.symm), cxL_get _ _ _ hi, cxL_get _ _ _ hi]
      simp [setC, e]
  · rw [List.getElem?_eq_none (by rw [List.length_set, cxL_length]; omega), List.getElem?_eq_none (by rw [cxL_length]; omega)]
theorem cx_zeros (n : Nat) : (madeCells #[Value.complex .f32 0 0] n).toList = cxL n (fun _ => (0, 0)) := by
  apply List.ext_getElem
  · simp [madeCells, cxL]
  · intro i h1 h2
    simp [madeCells, Nat.mod_one, cxL]
/-- A row of the call's own, of n numbers. -/
def RowC (w : World) (B g n : Nat) (C : Nat → Nat × Nat) : Prop := w.ownsRow B 47 1 (.slice (some ⟨g, 0, none⟩) n n) n (cxL n C)
theorem RowC.below {w w' : World} {B g n : Nat} {C : Nat → Nat × Nat} (h : RowC w B g n C) (hb : Below w.heap.size w w') : RowC w' B g n C := rowBelow h hb
theorem RowC.cell {w : World} {B g n : Nat} {C : Nat → Nat × Nat} (h : RowC w B g n C) (i : Nat) (hi : i < n) : w.cell? ⟨g, i, none⟩ = some (.complex .f32 (C i).1 (C i).2) := by
  rw [h.cellAt i (by omega), cxL_get _ _ _ hi]
theorem RowC.lt {w : World} {B g n : Nat} {C : Nat → Nat × Nat} (h : RowC w B g n C) : B ≤ g ∧ g < w.heap.size := World.ownsRow.lt h g rfl
theorem RowC.set {w : World} {B g n : Nat} {C : Nat → Nat × Nat} (h : RowC w B g n C) (j : Nat) (b : Nat × Nat) : RowC (w.setCell ⟨g, j, none⟩ (.complex .f32 b.1 b.2)) B g n (setC C j b) := by
  have := (World.ownsRow.stored h j (.complex .f32 b.1 b.2)).1
  rw [cxL_set] at this
  exact this
theorem RowC.grown {w w' : World} {B g n : Nat} {C : Nat → Nat × Nat} {g' : Nat} (h : RowC w B g n C) (hg : w.grownBy w' (some g')) (hne : g ≠ g') : RowC w' B g n C :=
  World.ownsRow.kept h hg (Or.inr (fun e => hne (by simpa [Value.ownBlock] using e)))
theorem RowC.mono {w : World} {B B' g n : Nat} {C : Nat → Nat × Nat} (h : RowC w B g n C) (hB : B' ≤ B) : RowC w B' g n C := rowMono h hB
/-- The numbers stand for the Gaussian numbers X i and Y i. -/
def CZ (C : Nat → Nat × Nat) (X Y : Nat → Int) (n : Nat) : Prop := ∀ i, i < n → FK .f32 (C i).1 (X i) ∧ FK .f32 (C i).2 (Y i)

/-! ### lengths -/
def tfZ (n : Int) : Bool := decide (n = 1 ∨ n = 4 ∨ n = 16)
theorem tfZ_nat (n : Nat) : tfZ n = tfSz n := by
  unfold tfZ tfSz
  rw [decide_eq_decide]
  omega
def waZ (n : Int) : Bool := decide (n = 1 ∨ n = 2 ∨ n = 4 ∨ n = 8 ∨ n = 16 ∨ n = 32)
set_option maxHeartbeats 2000000 in
theorem fits_conj (n : Int) (w : World) : Calls Try.prog 55 #[.int .i64 3, .int .i64 n] w (Pure w (.bool (tfZ n))) := by
  obtain ⟨q, hq⟩ : ∃ q, q = tfZ n := ⟨_, rfl⟩
  rw [← hq]
  have HQ := Lib.hid hq
  clear hq
  go_enter Try.func55, Try.ntmps55
  go_wp2
  go_loop [5] (fun i => ∃ k : Nat, k ≤ 3 ∧ i = .int .i64 (([1, 4, 16, 64] : List Int).getD k 0) ∧ ∀ j, j < k → n ≠ ([1, 4, 16, 64] : List Int).getD j 0) (fun i => 1000 - (intOf i).toNat)
  case atStart => exact ⟨0, by omega, rfl, fun j hj => absurd hj (Nat.not_lt_zero _)⟩
  case round =>
    obtain ⟨k, hk, rfl, hno⟩ := hrel
    have HNO := Lib.hid hno
    clear hno
    rcases (show k = 0 ∨ k = 1 ∨ k = 2 ∨ k = 3 by omega) with rfl | rfl | rfl | rfl
    · rw [show ([1, 4, 16, 64] : List Int).getD 0 0 = 1 from rfl]
      by_cases he : 1 = n
      · subst he
        go_wp2
        go_returns
        exact ⟨ret_bool (by rw [HQ.out]; rfl), rfl⟩
      · go_wp2
        go_round
        case rel => exact ⟨1, by omega, rfl, fun j hj => by
          rcases (show j < 0 ∨ j = 0 by omega) with h | rfl
          · exact HNO.out j h
          · exact fun e => he e.symm⟩
        case measure => simp [intOf]
    · rw [show ([1, 4, 16, 64] : List Int).getD 1 0 = 4 from rfl]
      by_cases he : 4 = n
      · subst he
        go_wp2
        go_returns
        exact ⟨ret_bool (by rw [HQ.out]; rfl), rfl⟩
      · go_wp2
        go_round
        case rel => exact ⟨2, by omega, rfl, fun j hj => by
          rcases (show j < 1 ∨ j = 1 by omega) with h | rfl
          · exact HNO.out j h
          · exact fun e => he e.symm⟩
        case measure => simp [intOf]
    · rw [show ([1, 4, 16, 64] : List Int).getD 2 0 = 16 from rfl]
      by_cases he : 16 = n
      · subst he
        go_wp2
        go_returns
        exact ⟨ret_bool (by rw [HQ.out]; rfl), rfl⟩
      · go_wp2
        go_round
        case rel => exact ⟨3, by omega, rfl, fun j hj => by
          rcases (show j < 2 ∨ j = 2 by omega) with h | rfl
          · exact HNO.out j h
          · exact fun e => he e.symm⟩
        case measure => simp [intOf]
    · rw [show ([1, 4, 16, 64] : List Int).getD 3 0 = 64 from rfl]
      go_wp2
      go_returns
      have h0 : n ≠ 1 := HNO.out 0 (by omega)
      have h1 : n ≠ 4 := HNO.out 1 (by omega)
      have h2 : n ≠ 16 := HNO.out 2 (by omega)
      exact ⟨ret_bool (by rw [HQ.out]; simp [tfZ, h0, h1, h2]), rfl⟩
set_option maxHeartbeats 2000000 in
theorem fits_sign (n : Int) (w : World) : Calls Try.prog 55 #[.int .i64 2, .int .i64 n] w (Pure w (.bool (waZ n))) := by
  obtain ⟨q, hq⟩ : ∃ q, q = waZ n := ⟨_, rfl⟩
  rw [← hq]
  have HQ := Lib.hid hq
  clear hq
  go_enter Try.func55, Try.ntmps55
  go_wp2
  go_loop [5] (fun i => ∃ k : Nat, k ≤ 6 ∧ i = .int .i64 (([1, 2, 4, 8, 16, 32, 64] : List Int).getD k 0) ∧ ∀ j, j < k → n ≠ ([1, 2, 4, 8, 16, 32, 64] : List Int).getD j 0) (fun i => 1000 - (intOf i).toNat)
  case atStart => exact ⟨0, by omega, rfl, fun j hj => absurd hj (Nat.not_lt_zero _)⟩
  case round =>
    obtain ⟨k, hk, rfl, hno⟩ := hrel
    have HNO := Lib.hid hno
    clear hno
    rcases (show k = 0 ∨ k = 1 ∨ k = 2 ∨ k = 3 ∨ k = 4 ∨ k = 5 ∨ k = 6 by omega) with rfl | rfl | rfl | rfl | rfl | rfl | rfl
    · rw [show ([1, 2, 4, 8, 16, 32, 64] : List Int).getD 0 0 = 1 from rfl]
      by_cases he : 1 = n
      · subst he
        go_wp2
        go_returns
        exact ⟨ret_bool (by rw [HQ.out]; rfl), rfl⟩
      · go_wp2
        go_round
        case rel => exact ⟨1, by omega, rfl, fun j hj => by
          rcases (show j < 0 ∨ j = 0 by omega) with h | rfl
          · exact HNO.out j h
          · exact fun e => he e.symm⟩
        case measure => simp [intOf]
    · rw [show ([1, 2, 4, 8, 16, 32, 64] : List Int).getD 1 0 = 2 from rfl]
      by_cases he : 2 = n
      · subst he
        go_wp2
        go_returns
        exact ⟨ret_bool (by rw [HQ.out]; rfl), rfl⟩
      · go_wp2
        go_round
        case rel => exact ⟨2, by omega, rfl, fun j hj => by
          rcases (show j < 1 ∨ j = 1 by omega) with h | rfl
          · exact HNO.out j h
          · exact fun e => he e.symm⟩
        case measure => simp [intOf]
    · rw [show ([1, 2, 4, 8, 16, 32, 64] : List Int).getD 2 0 = 4 from rfl]
      by_cases he : 4 = n
      · subst he
        go_wp2
        go_returns
        exact ⟨ret_bool (by rw [HQ.out]; rfl), rfl⟩
      · go_wp2
        go_round
        case rel => exact ⟨3, by omega, rfl, fun j hj => by
          rcases (show j < 2 ∨ j = 2 by omega) with h | rfl
          · exact HNO.out j h
          · exact fun e => he e.symm⟩
        case measure => simp [intOf]
    · rw [show ([1, 2, 4, 8, 16, 32, 64] : List Int).getD 3 0 = 8 from rfl]
      by_cases he : 8 = n
      · subst he
        go_wp2
        go_returns
        exact ⟨ret_bool (by rw [HQ.out]; rfl), rfl⟩
      · go_wp2
        go_round
        case rel => exact ⟨4, by omega, rfl, fun j hj => by
          rcases (show j < 3 ∨ j = 3 by omega) with h | rfl
          · exact HNO.out j h
          · exact fun e => he e.symm⟩
        case measure => simp [intOf]
    · rw [show ([1, 2, 4, 8, 16, 32, 64] : List Int).getD 4 0 = 16 from rfl]
      by_cases he : 16 = n
      · subst he
        go_wp2
        go_returns
        exact ⟨ret_bool (by rw [HQ.out]; rfl), rfl⟩
      · go_wp2
        go_round
        case rel => exact ⟨5, by omega, rfl, fun j hj => by
          rcases (show j < 4 ∨ j = 4 by omega) with h | rfl
          · exact HNO.out j h
          · exact fun e => he e.symm⟩
        case measure => simp [intOf]
    · rw [show ([1, 2, 4, 8, 16, 32, 64] : List Int).getD 5 0 = 32 from rfl]
      by_cases he : 32 = n
      · subst he
        go_wp2
        go_returns
        exact ⟨ret_bool (by rw [HQ.out]; rfl), rfl⟩
      · go_wp2
        go_round
        case rel => exact ⟨6, by omega, rfl, fun j hj => by
          rcases (show j < 5 ∨ j = 5 by omega) with h | rfl
          · exact HNO.out j h
          · exact fun e => he e.symm⟩
        case measure => simp [intOf]
    · rw [show ([1, 2, 4, 8, 16, 32, 64] : List Int).getD 6 0 = 64 from rfl]
      go_wp2
      go_returns
      have h0 : n ≠ 1 := HNO.out 0 (by omega)
      have h1 : n ≠ 2 := HNO.out 1 (by omega)
      have h2 : n ≠ 4 := HNO.out 2 (by omega)
      have h3 : n ≠ 8 := HNO.out 3 (by omega)
      have h4 : n ≠ 16 := HNO.out 4 (by omega)
      have h5 : n ≠ 32 := HNO.out 5 (by omega)
      exact ⟨ret_bool (by rw [HQ.out]; simp [waZ, h0, h1, h2, h3, h4, h5]), rfl⟩
end Go.Proofs.Ytccjmigdebchiaa
