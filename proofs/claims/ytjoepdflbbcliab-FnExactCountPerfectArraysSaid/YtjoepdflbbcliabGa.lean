/- Correlations of arrays by their size and their phases. -/
import Derived.Test.YtjoepdflbbcliabAaM
namespace Go.Proofs.Ytjoepdflbbcliab

set_option maxRecDepth 100000
def gaT (f : Int → Int) (n m : Nat) (M : Nat → Nat → Int) (u v i j : Nat) : Int := f ((M ((i + u) % n) ((j + v) % m) - M i j) % 4)
def gaR (f : Int → Int) (n m : Nat) (M : Nat → Nat → Int) (u v i k : Nat) : Int := sumN (gaT f n m M u v i) k
def gaS (f : Int → Int) (n m : Nat) (M : Nat → Nat → Int) (u v k : Nat) : Int := sumN (fun i => gaR f n m M u v i m) k
def gaP (f : Int → Int) (n m : Nat) (M : Nat → Nat → Int) (u v i j : Nat) : Int := gaS f n m M u v i + gaR f n m M u v i j
theorem ga_aa (f : Int → Int) (l : List (List Int)) (u v k : Nat) : gaS f l.length (colsOf l) (atM l) u v k = aaS f l u v k := rfl
theorem gaR_le (f : Int → Int) (hf : ∀ x, -1 ≤ f x ∧ f x ≤ 1) (n m : Nat) (M : Nat → Nat → Int) (u v i k : Nat) : -(k : Int) ≤ gaR f n m M u v i k ∧ gaR f n m M u v i k ≤ k := sumN_bound _ (fun _ => hf _) k
theorem gaS_le (f : Int → Int) (hf : ∀ x, -1 ≤ f x ∧ f x ≤ 1) (n m : Nat) (M : Nat → Nat → Int) (u v : Nat) (hc : m ≤ 8) (k : Nat) : -(8 * k : Int) ≤ gaS f n m M u v k ∧ gaS f n m M u v k ≤ 8 * k := by
  induction k with
  | zero => simp [gaS, sumN]
  | succ k ih =>
    have h := gaR_le f hf n m M u v k m
    have e : gaS f n m M u v (k + 1) = gaS f n m M u v k + gaR f n m M u v k m := rfl
    rw [e]
    push_cast
    omega
theorem gaP_le (f : Int → Int) (hf : ∀ x, -1 ≤ f x ∧ f x ≤ 1) (n m : Nat) (M : Nat → Nat → Int) (u v : Nat) (hn : n ≤ 8) (hc : m ≤ 8) (i j : Nat) (hi : i < n) (hj : j ≤ m) : -64 ≤ gaP f n m M u v i j ∧ gaP f n m M u v i j ≤ 64 := by
  have h1 := gaS_le f hf n m M u v hc i
  have h2 := gaR_le f hf n m M u v i j
  unfold gaP
  omega
theorem gaP_zero (f : Int → Int) (n m : Nat) (M : Nat → Nat → Int) (u v i : Nat) : gaP f n m M u v i 0 = gaS f n m M u v i := by unfold gaP gaR; simp [sumN]
theorem gaP_step (f : Int → Int) (n m : Nat) (M : Nat → Nat → Int) (u v i j : Nat) : gaP f n m M u v i (j + 1) = gaP f n m M u v i j + gaT f n m M u v i j := by
  have e : gaR f n m M u v i (j + 1) = gaR f n m M u v i j + gaT f n m M u v i j := rfl
  unfold gaP
  rw [e]; omega
theorem gaP_row (f : Int → Int) (n m : Nat) (M : Nat → Nat → Int) (u v i : Nat) : gaP f n m M u v i m = gaS f n m M u v (i + 1) := rfl
end Go.Proofs.Ytjoepdflbbcliab
