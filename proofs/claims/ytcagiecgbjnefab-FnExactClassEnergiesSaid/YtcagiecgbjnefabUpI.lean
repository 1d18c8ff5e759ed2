/- A list of numbers that are set one by one. -/
import Derived.Test.YtcagiecgbjnefabPhs
namespace Go.Proofs.Ytcagiecgbjnefab
set_option maxRecDepth 100000
open Go.RowKit

/-- The first j numbers are set, the others zero. -/
def upI (k : Nat) (G : Nat → Int) : Nat → Int := fun i => if i < k then G i else 0
theorem upI_set (n k : Nat) (G : Nat → Int) (hk : k < n) : ((gen n (upI k G)).map (Value.int .i64)).set k (.int .i64 (G k)) = (gen n (upI (k + 1) G)).map (Value.int .i64) := by
  apply List.ext_getElem?
  intro i
  by_cases hi : i < n
  · by_cases e : i = k
    · subst e
      rw [List.getElem?_set_self (by simp [gen_length]; exact hi)]
      simp [gen, upI, hi]
    · rw [List.getElem?_set_ne (fun h => e h.symm)]
      have e1 : (i < k + 1) = (i < k) := propext (by omega)
      simp [gen, upI, hi, e1]
  · rw [List.getElem?_eq_none (by simp [gen_length]; omega), List.getElem?_eq_none (by simp [gen_length]; omega)]
theorem upI_zero (n : Nat) (G : Nat → Int) : gen n (upI 0 G) = List.replicate n 0 := by
  unfold gen upI
  simp [List.map_const']
theorem upI_all (n : Nat) (G : Nat → Int) : gen n (upI n G) = gen n G := gen_ext (fun _ hi => if_pos hi)
end Go.Proofs.Ytcagiecgbjnefab
