/- The program's sizeOfParts, isExpanded. -/
import Derived.Test.YtccjmigdebchiaaIEx
import Derived.Test.YtccjmigdebchiaaGeM
namespace Go.Proofs.Ytccjmigdebchiaa
set_option maxRecDepth 100000
open Go.RowKit

set_option maxHeartbeats 1000000 in
theorem isExpanded_any (V : Nat → Nat × Nat) (n : Nat) (hn : n ≤ 8) (w : World) : Calls Try.prog 27 #[.agg (mxC V n)] w (Ret w (.bool (decide (1 ≤ n ∧ n ≤ 5)))) := by
  have HIS := Lib.hid (mxIs_any V n)
  have IM := Lib.hid (infoMxC V n)
  have HL := Lib.hid (mxC_side V n)
  obtain ⟨C, hC⟩ : ∃ C, C = mxC V n := ⟨_, rfl⟩
  rw [← hC] at HIS IM HL ⊢
  clear hC
  obtain ⟨p, hp⟩ : ∃ p, p = decide (1 ≤ n ∧ n ≤ 5) := ⟨_, rfl⟩
  rw [← hp]
  have HP := Lib.hid hp
  clear hp
  have B0 := Lib.hid (Below.refl w.heap.size w)
  by_cases h1 : 1 ≤ n
  · rw [decide_eq_true h1] at HIS
    go_enter Try.func27, Try.ntmps27
    go_wp2_with (first
      | ((with_reducible refine at_op (Op.box 53 (.tmp 0)) ?_); refine wpList_box_row rfl 53 (.tmp 0) rfl C rfl ?_; intro w1 hr hb hz; have R1 := Lib.hid hr; have B1 := Lib.hid (joins B0.out hb); clear hr hb hz)
      | ((with_reducible refine at_op (Op.load 53 (.tmp 1)) ?_); refine wpList_load_part rfl 53 (.tmp 1) rfl (w.heap.size) 0 rfl C C 53 (0, 0) _ R1.out (Part.self _) Try.underlying53 rfl IM.out ?_))
    refine (HIS.out _).mono ?_
    rintro e w2 ⟨rfl, hb⟩
    have c0 := rowC (rowB R1.out hb) HL.out
    have B2 := Lib.hid (joins B1.out hb)
    clear hb
    go_wp2_with fail
    go_returns
    exact ⟨ret_bool (by rw [HP.out]; by_cases h5 : n ≤ 5 <;> simp [h1, h5] <;> omega), B2.out⟩
  · rw [decide_eq_false h1] at HIS
    go_enter Try.func27, Try.ntmps27
    go_wp2_with (first
      | ((with_reducible refine at_op (Op.box 53 (.tmp 0)) ?_); refine wpList_box_row rfl 53 (.tmp 0) rfl C rfl ?_; intro w1 hr hb hz; have R1 := Lib.hid hr; have B1 := Lib.hid (joins B0.out hb); clear hr hb hz)
      | ((with_reducible refine at_op (Op.load 53 (.tmp 1)) ?_); refine wpList_load_part rfl 53 (.tmp 1) rfl (w.heap.size) 0 rfl C C 53 (0, 0) _ R1.out (Part.self _) Try.underlying53 rfl IM.out ?_))
    refine (HIS.out _).mono ?_
    rintro e w2 ⟨rfl, hb⟩
    have B2 := Lib.hid (joins B1.out hb)
    clear hb
    go_wp2_with fail
    go_returns
    exact ⟨ret_bool (by rw [HP.out, decide_eq_false (by omega)]), B2.out⟩
end Go.Proofs.Ytccjmigdebchiaa
