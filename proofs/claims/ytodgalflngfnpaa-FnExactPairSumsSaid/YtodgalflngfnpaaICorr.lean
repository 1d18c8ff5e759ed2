/- The program's lists of correlations. -/
import Derived.Test.YtodgalflngfnpaaIAp
import Derived.Test.YtodgalflngfnpaaPer
import Derived.Test.YtodgalflngfnpaaCoL
namespace Go.Proofs.Ytodgalflngfnpaa
set_option maxRecDepth 100000
open Go.RowKit

theorem zerosG (n : Nat) : (madeCells #[.int .i64 0, .int .i64 0] (n * 2)).toList = fl (List.replicate n (0, 0)) := by
  apply List.ext_getElem?
  intro i
  have hl : (fl (List.replicate n ((0 : Int), (0 : Int)))).length = n * 2 := by rw [fl_length, List.length_replicate]
  by_cases h : i < n * 2
  · have hq : i / 2 < (List.replicate n ((0 : Int), (0 : Int))).length := by rw [List.length_replicate]; omega
    have e0 : gre (List.replicate n ((0 : Int), (0 : Int))) (i / 2) = 0 := by simp [gre, List.getD, List.getElem?_replicate]; split <;> rfl
    have e1 : gim (List.replicate n ((0 : Int), (0 : Int))) (i / 2) = 0 := by simp [gim, List.getD, List.getElem?_replicate]; split <;> rfl
    have hm : (madeCells #[Value.int .i64 0, .int .i64 0] (n * 2)).toList[i]? = some (.int .i64 0) := by
      rcases (show i % 2 = 0 ∨ i % 2 = 1 by omega) with e | e <;> simp [madeCells, h, e]
    rw [hm]
    rcases (show i = i / 2 * 2 ∨ i = i / 2 * 2 + 1 by omega) with e | e
    · rw [e, fl_re _ _ hq, e0]
    · rw [e, fl_im _ _ hq, e1]
  · rw [List.getElem?_eq_none (by simp [madeCells]; omega), List.getElem?_eq_none (by omega)]
theorem genG_set (n : Nat) (X Y : Nat → Int) (k : Nat) (h : k < n) : (genG k X Y ++ List.replicate (n - k) (0, 0)).set k (X k, Y k) = genG (k + 1) X Y ++ List.replicate (n - (k + 1)) (0, 0) := by
  rw [List.set_append_right _ _ (by rw [genG_length]; exact Nat.le_refl _), genG_length, Nat.sub_self, genG_succ]
  rw [show n - k = (n - (k + 1)) + 1 by omega, List.replicate_succ, List.set_cons_zero, List.append_assoc]
  rfl
theorem genG_pad_len (n : Nat) (X Y : Nat → Int) (k : Nat) (h : k ≤ n) : (genG k X Y ++ List.replicate (n - k) ((0 : Int), (0 : Int))).length = n := by simp [genG_length]; omega

end Go.Proofs.Ytodgalflngfnpaa
