/- The rows of values that a determinant is of; the model's phTimes. -/
import Derived.Test.YtccjmigdebchiaaDeM
import Derived.Test.YtccjmigdebchiaaGMi
namespace Go.Proofs.Ytccjmigdebchiaa

set_option maxRecDepth 100000
/-- d rows from i on, of the columns cols, as values. -/
def gmG (M : Nat → Nat → Int) (d i : Nat) (cols : List Nat) : List (List (Int × Int)) := (List.range d).map (fun r => cols.map (fun c => (vx (M (i + r) c), vy (M (i + r) c))))
theorem gmG_length (M : Nat → Nat → Int) (d i : Nat) (cols : List Nat) : (gmG M d i cols).length = d := by simp [gmG]
theorem gmG_row (M : Nat → Nat → Int) (d i : Nat) (cols : List Nat) (r : Nat) (h : r < d) : (gmG M d i cols).getD r [] = cols.map (fun c => (vx (M (i + r) c), vy (M (i + r) c))) := by simp [gmG, List.getD, h]
theorem map_eraseIdx' {α β : Type} (f : α → β) : ∀ (l : List α) (k : Nat), (l.map f).eraseIdx k = (l.eraseIdx k).map f
  | [], _ => rfl
  | _ :: _, 0 => rfl
  | a :: t, k + 1 => by simp only [List.map_cons, List.eraseIdx_cons_succ, map_eraseIdx' f t k]
theorem miG_gm (M : Nat → Nat → Int) (d i : Nat) (cols : List Nat) (k : Nat) : miG k (gmG M (d + 1) i cols) = gmG M d (i + 1) (cols.eraseIdx k) := by
  unfold miG gmG
  rw [List.range_succ_eq_map, List.map_cons, List.drop_one, List.tail_cons, List.map_map, List.map_map]
  apply List.map_congr_left
  intro r _
  simp only [Function.comp]
  rw [map_eraseIdx', show i + Nat.succ r = i + 1 + r by omega]
theorem gm_first (M : Nat → Nat → Int) (d i : Nat) (cols : List Nat) (k : Nat) (h : k < cols.length) : gre ((gmG M (d + 1) i cols).getD 0 []) k = vx (M i (cols.getD k 0)) ∧ gim ((gmG M (d + 1) i cols).getD 0 []) k = vy (M i (cols.getD k 0)) := by
  rw [gmG_row _ _ _ _ 0 (by omega)]
  simp [gre, gim, List.getD, h]
/-- The term at k: the value, the rest, the sign by k's parity. -/
theorem term_even (p : Int) (hp : 0 ≤ p ∧ p ≤ 3) (z : Int × Int) (k : Nat) (h : k % 2 = 0) : dtT ((p + 2 * (k : Int)) % 4) z = (vx p * z.1 - vy p * z.2, vx p * z.2 + vy p * z.1) := by
  rw [show (p + 2 * (k : Int)) % 4 = p by omega]; rfl
theorem term_odd (p : Int) (hp : 0 ≤ p ∧ p ≤ 3) (z : Int × Int) (k : Nat) (h : k % 2 = 1) : dtT ((p + 2 * (k : Int)) % 4) z = (-(vx p * z.1 - vy p * z.2), -(vx p * z.2 + vy p * z.1)) := by
  unfold dtT
  rcases (show p = 0 ∨ p = 1 ∨ p = 2 ∨ p = 3 by omega) with rfl | rfl | rfl | rfl
  · rw [show ((0 : Int) + 2 * (k : Int)) % 4 = 2 by omega, show vx 2 = -1 from rfl, show vy 2 = 0 from rfl, show vx 0 = 1 from rfl, show vy 0 = 0 from rfl]; ext <;> dsimp only <;> omega
  · rw [show ((1 : Int) + 2 * (k : Int)) % 4 = 3 by omega, show vx 3 = 0 from rfl, show vy 3 = -1 from rfl, show vx 1 = 0 from rfl, show vy 1 = 1 from rfl]; ext <;> dsimp only <;> omega
  · rw [show ((2 : Int) + 2 * (k : Int)) % 4 = 0 by omega, show vx 2 = -1 from rfl, show vy 2 = 0 from rfl, show vx 0 = 1 from rfl, show vy 0 = 0 from rfl]; ext <;> dsimp only <;> omega
  · rw [show ((3 : Int) + 2 * (k : Int)) % 4 = 1 by omega, show vx 3 = 0 from rfl, show vy 3 = -1 from rfl, show vx 1 = 0 from rfl, show vy 1 = 1 from rfl]; ext <;> dsimp only <;> omega
end Go.Proofs.Ytccjmigdebchiaa
