/- Correlations as sums over the index: plain mathematics. -/
import Derived.Test.YtodgalflngfnpaaFlo
import Derived.Test.YtodgalflngfnpaaSumM
import Derived.Test.YtodgalflngfnpaaGen
namespace Go.Proofs.Ytodgalflngfnpaa

set_option maxRecDepth 100000
def sumN (g : Nat → Int) : Nat → Int
  | 0 => 0
  | k + 1 => sumN g k + g k
theorem sumN_bound (g : Nat → Int) (hg : ∀ i, -1 ≤ g i ∧ g i ≤ 1) (k : Nat) : -(k : Int) ≤ sumN g k ∧ sumN g k ≤ k := by
  induction k with
  | zero => simp [sumN]
  | succ k ih => have := hg k; simp only [sumN]; omega
theorem sumN_same (g : Nat → Int) (a : Nat) (d : Nat) (h : ∀ i, a ≤ i → i < a + d → g i = 0) : sumN g (a + d) = sumN g a := by
  induction d with
  | zero => rfl
  | succ d ih =>
    have h1 := ih (fun i h1 h2 => h i h1 (by omega))
    have h2 := h (a + d) (by omega) (by omega)
    show sumN g (a + d) + g (a + d) = _
    omega
theorem sumN_zero (g : Nat → Int) (b : Nat) (h : ∀ i, i < b → g i = 0) : sumN g b = 0 := by
  have := sumN_same g 0 b (fun i _ h2 => h i (by omega))
  rw [Nat.zero_add] at this
  exact this
theorem sumN_ext (g h : Nat → Int) (n : Nat) (e : ∀ i, i < n → g i = h i) : sumN g n = sumN h n := by
  induction n with
  | zero => rfl
  | succ n ih => simp only [sumN]; rw [ih (fun i hi => e i (by omega)), e n (by omega)]
theorem sumF_append (f : Int → Int) (l m : List Int) : sumF f (l ++ m) = sumF f l + sumF f m := by
  induction l with
  | nil => simp [sumF]
  | cons x t ih => simp only [List.cons_append, sumF, ih]; omega
theorem sumF_gen (f : Int → Int) (g : Nat → Int) (n : Nat) : sumF f (gen n g) = sumN (fun i => f (g i)) n := by
  induction n with
  | zero => rfl
  | succ n ih => rw [gen_succ, sumF_append, ih]; simp [sumF, sumN]
/-- The terms of an aperiodic correlation at u. -/
def apT (f : Int → Int) (a b : List Int) (u : Int) (i : Nat) : Int := if 0 ≤ (i : Int) + u ∧ (i : Int) + u < a.length then f ((a.getD ((i : Int) + u).toNat 0 - b.getD i 0) % 4) else 0
def apS (f : Int → Int) (a b : List Int) (u : Int) : Int := sumN (apT f a b u) b.length
/-- The terms of a periodic one. -/
def peT (f : Int → Int) (a b : List Int) (u : Int) (i : Nat) : Int := f ((a.getD (((i : Int) + u) % (a.length : Int)).toNat 0 - b.getD i 0) % 4)
def peS (f : Int → Int) (a b : List Int) (u : Int) : Int := sumN (peT f a b u) b.length
/-- The terms of a value at a root. -/
def vrT (f : Int → Int) (l : List Int) (k : Int) (i : Nat) : Int := f ((l.getD i 0 + k * (i : Int)) % 4)
def vrS (f : Int → Int) (l : List Int) (k : Int) : Int := sumN (vrT f l k) l.length
theorem apT_one (f : Int → Int) (hf : ∀ x, -1 ≤ f x ∧ f x ≤ 1) (a b : List Int) (u : Int) (i : Nat) : -1 ≤ apT f a b u i ∧ apT f a b u i ≤ 1 := by
  unfold apT; split
  · exact hf _
  · omega
theorem peT_one (f : Int → Int) (hf : ∀ x, -1 ≤ f x ∧ f x ≤ 1) (a b : List Int) (u : Int) (i : Nat) : -1 ≤ peT f a b u i ∧ peT f a b u i ≤ 1 := hf _
theorem vrT_one (f : Int → Int) (hf : ∀ x, -1 ≤ f x ∧ f x ≤ 1) (l : List Int) (k : Int) (i : Nat) : -1 ≤ vrT f l k i ∧ vrT f l k i ≤ 1 := hf _
theorem apS_small (f : Int → Int) (hf : ∀ x, -1 ≤ f x ∧ f x ≤ 1) (a b : List Int) (u : Int) (h : b.length ≤ 32) : -32 ≤ apS f a b u ∧ apS f a b u ≤ 32 := by
  have := sumN_bound _ (apT_one f hf a b u) b.length
  unfold apS; omega
theorem peS_small (f : Int → Int) (hf : ∀ x, -1 ≤ f x ∧ f x ≤ 1) (a b : List Int) (u : Int) (h : b.length ≤ 32) : -32 ≤ peS f a b u ∧ peS f a b u ≤ 32 := by
  have := sumN_bound _ (peT_one f hf a b u) b.length
  unfold peS; omega
theorem vrS_small (f : Int → Int) (hf : ∀ x, -1 ≤ f x ∧ f x ≤ 1) (l : List Int) (k : Int) (h : l.length ≤ 32) : -32 ≤ vrS f l k ∧ vrS f l k ≤ 32 := by
  have := sumN_bound _ (vrT_one f hf l k) l.length
  unfold vrS; omega
theorem apT_in (f : Int → Int) (a b : List Int) (u : Int) (i M : Nat) (h : (i : Int) + u = M) (hM : M < a.length) : apT f a b u i = f ((a.getD M 0 - b.getD i 0) % 4) := by
  unfold apT
  rw [if_pos (by omega), h, Int.toNat_natCast]
theorem apT_out (f : Int → Int) (a b : List Int) (u : Int) (i : Nat) (h : ¬ (0 ≤ (i : Int) + u ∧ (i : Int) + u < a.length)) : apT f a b u i = 0 := by
  unfold apT
  rw [if_neg h]
/-- Up to the first index there is nothing. -/
theorem ap_start (f : Int → Int) (a b : List Int) (u : Int) (L : Nat) (h : (L : Int) ≤ -u ∨ L = 0) : sumN (apT f a b u) L = 0 :=
  sumN_zero _ _ (fun i hi => apT_out f a b u i (by omega))
/-- From the last index on there is nothing more. -/
theorem ap_end (f : Int → Int) (a b : List Int) (u : Int) (H : Nat) (hH : H ≤ b.length) (h : (a.length : Int) - u ≤ H ∨ H = b.length) : sumN (apT f a b u) H = apS f a b u := by
  unfold apS
  obtain ⟨d, hd⟩ : ∃ d, b.length = H + d := ⟨b.length - H, by omega⟩
  rw [hd]
  exact (sumN_same _ H d (fun i h1 h2 => apT_out f a b u i (by omega))).symm
end Go.Proofs.Ytodgalflngfnpaa
