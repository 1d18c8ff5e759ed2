/- Correlations of arrays: plain mathematics. -/
import Derived.Test.YtjoepdflbbcliabArG
import Derived.Test.YtjoepdflbbcliabCors
namespace Go.Proofs.Ytjoepdflbbcliab

set_option maxRecDepth 100000
def aaT (f : Int → Int) (m : List (List Int)) (u v i j : Nat) : Int := f ((atM m ((i + u) % m.length) ((j + v) % colsOf m) - atM m i j) % 4)
def aaR (f : Int → Int) (m : List (List Int)) (u v i k : Nat) : Int := sumN (aaT f m u v i) k
def aaS (f : Int → Int) (m : List (List Int)) (u v k : Nat) : Int := sumN (fun i => aaR f m u v i (colsOf m)) k
/-- The sum up to the row i, the column j. -/
def aaP (f : Int → Int) (m : List (List Int)) (u v i j : Nat) : Int := aaS f m u v i + aaR f m u v i j
theorem aaR_le (f : Int → Int) (hf : ∀ x, -1 ≤ f x ∧ f x ≤ 1) (m : List (List Int)) (u v i k : Nat) : -(k : Int) ≤ aaR f m u v i k ∧ aaR f m u v i k ≤ k := sumN_bound _ (fun _ => hf _) k
theorem aaS_le (f : Int → Int) (hf : ∀ x, -1 ≤ f x ∧ f x ≤ 1) (m : List (List Int)) (u v : Nat) (hc : colsOf m ≤ 8) (k : Nat) : -(8 * k : Int) ≤ aaS f m u v k ∧ aaS f m u v k ≤ 8 * k := by
  induction k with
  | zero => simp [aaS, sumN]
  | succ k ih =>
    have h := aaR_le f hf m u v k (colsOf m)
    have e : aaS f m u v (k + 1) = aaS f m u v k + aaR f m u v k (colsOf m) := rfl
    rw [e]
    push_cast
    omega
theorem aaP_le (f : Int → Int) (hf : ∀ x, -1 ≤ f x ∧ f x ≤ 1) (m : List (List Int)) (u v : Nat) (hn : m.length ≤ 8) (hc : colsOf m ≤ 8) (i j : Nat) (hi : i < m.length) (hj : j ≤ colsOf m) : -64 ≤ aaP f m u v i j ∧ aaP f m u v i j ≤ 64 := by
  have h1 := aaS_le f hf m u v hc i
  have h2 := aaR_le f hf m u v i j
  unfold aaP
  omega
theorem aaP_zero (f : Int → Int) (m : List (List Int)) (u v i : Nat) : aaP f m u v i 0 = aaS f m u v i := by unfold aaP aaR; simp [sumN]
theorem aaP_step (f : Int → Int) (m : List (List Int)) (u v i j : Nat) : aaP f m u v i (j + 1) = aaP f m u v i j + aaT f m u v i j := by
  have e : aaR f m u v i (j + 1) = aaR f m u v i j + aaT f m u v i j := rfl
  unfold aaP
  rw [e]; omega
theorem aaP_row (f : Int → Int) (m : List (List Int)) (u v i : Nat) : aaP f m u v i (colsOf m) = aaS f m u v (i + 1) := rfl
theorem aaS_zero (f : Int → Int) (m : List (List Int)) (u v : Nat) : aaS f m u v 0 = 0 := rfl
def aaA (f : Int → Int) (m : List (List Int)) (u v : Int) : Int := if plOk m u v then aaS f m u.toNat v.toNat m.length else 0
theorem arOk_ph {m : List (List Int)} (h : arOk m = true) (i j : Nat) (hi : i < m.length) (hj : j < colsOf m) : 0 ≤ atM m i j ∧ atM m i j ≤ 3 := by
  have h2 := (arOk_parts h).2.2 i hi
  exact allIn_getD h2.2 j (by rw [h2.1]; exact hj)
end Go.Proofs.Ytjoepdflbbcliab
