/- RankOf: the model's and the program's. -/
import Derived.Test.YtcagiecgbjnefaaKit
namespace Go.Proofs.Ytcagiecgbjnefaa
set_option maxRecDepth 100000
open Go.RowKit

def rankF (l : List Int) : Int := l.foldl (fun n k => 4 * n + k) 0
theorem rankF_take_succ (l : List Int) (k : Nat) (h : k < l.length) : rankF (l.take (k + 1)) = 4 * rankF (l.take k) + l.getD k 0 := by
  unfold rankF
  rw [List.take_succ_eq_append_getElem h, List.foldl_append]
  simp [List.getD, h]
theorem rankF_bound (l : List Int) (h : allIn l 0 3 = true) : ∀ k : Nat, k ≤ l.length → 0 ≤ rankF (l.take k) ∧ rankF (l.take k) < 4 ^ k := by
  intro k
  induction k with
  | zero => intro _; simp [rankF]
  | succ k ih =>
    intro hk
    have h1 := ih (by omega)
    have h2 := allIn_getD h k (by omega)
    rw [rankF_take_succ l k (by omega), Int.pow_succ]
    omega
theorem pow15 (k : Nat) (h : k ≤ 15) : (4 : Int) ^ k ≤ 1073741824 := by
  have h' : ∀ j : Nat, j < 16 → (4 : Int) ^ j ≤ 1073741824 := by decide
  exact h' k (by omega)
theorem rankF_small (l : List Int) (h : isSeq l = true) (h15 : l.length ≤ 15) (k : Nat) (hk : k ≤ l.length) : 0 ≤ rankF (l.take k) ∧ rankF (l.take k) ≤ 1073741824 := by
  have h1 := rankF_bound l (isSeq_all h) k hk
  have h2 := pow15 k (by omega)
  omega
def ranked (l : List Int) : Bool := isSeq l && decide (l.length ≤ 15)
def rankR (l : List Int) : Int := if ranked l then rankF l else 0

end Go.Proofs.Ytcagiecgbjnefaa
