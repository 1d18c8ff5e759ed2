/- Greatest sums over all turns of rows: plain. -/
import Derived.Test.YtccjmigdebchiaaMaN
import Derived.Test.YtccjmigdebchiaaCors
import Derived.Test.YtccjmigdebchiaaBarM
namespace Go.Proofs.Ytccjmigdebchiaa

set_option maxRecDepth 100000
theorem maxN_le (g : Nat → Int) (b : Int) (hb : 0 ≤ b) : ∀ n, (∀ i, i < n → g i ≤ b) → maxN g n ≤ b
  | 0, _ => hb
  | n + 1, h => by
    have h1 := maxN_le g b hb n (fun i hi => h i (by omega))
    have h2 := h n (by omega)
    simp only [maxN]; split <;> omega
theorem maxN_ge (g : Nat → Int) : ∀ n i, i < n → g i ≤ maxN g n
  | 0, i, h => absurd h (Nat.not_lt_zero _)
  | n + 1, i, h => by
    simp only [maxN]
    by_cases e : i = n
    · subst e; split <;> omega
    · have := maxN_ge g n i (by omega)
      split <;> omega
theorem maxN_pos (g : Nat → Int) : ∀ n, 0 ≤ maxN g n
  | 0 => Int.le_refl _
  | n + 1 => by have := maxN_pos g n; simp only [maxN]; split <;> omega
theorem maxN_same (g h : Nat → Int) (n : Nat) (h1 : ∀ i, i < n → ∃ j, j < n ∧ g i = h j) (h2 : ∀ i, i < n → ∃ j, j < n ∧ h i = g j) : maxN g n = maxN h n := by
  have a : maxN g n ≤ maxN h n := maxN_le g _ (maxN_pos h n) n (fun i hi => by obtain ⟨j, hj, e⟩ := h1 i hi; rw [e]; exact maxN_ge h n j hj)
  have b : maxN h n ≤ maxN g n := maxN_le h _ (maxN_pos g n) n (fun i hi => by obtain ⟨j, hj, e⟩ := h2 i hi; rw [e]; exact maxN_ge g n j hj)
  omega
/-- The digits of a number are any. -/
theorem digits_any (d : Nat → Nat) (hd : ∀ i, d i < 4) : ∀ n, ∃ r, r < 4 ^ n ∧ ∀ i, i < n → r / 4 ^ i % 4 = d i
  | 0 => ⟨0, by simp, fun i h => absurd h (Nat.not_lt_zero _)⟩
  | n + 1 => by
    obtain ⟨r, hr, h⟩ := digits_any d hd n
    refine ⟨r + d n * 4 ^ n, ?_, fun i hi => ?_⟩
    · have := hd n
      have : d n * 4 ^ n ≤ 3 * 4 ^ n := Nat.mul_le_mul_right _ (by omega)
      rw [Nat.pow_succ]; omega
    · have hp : 0 < 4 ^ i := Nat.pos_of_ne_zero (by simp)
      by_cases e : i = n
      · subst e
        rw [Nat.add_mul_div_right _ _ hp, Nat.div_eq_of_lt hr, Nat.zero_add, Nat.mod_eq_of_lt (hd i)]
      · have e2 : d n * 4 ^ n = d n * 4 ^ (n - i - 1) * 4 * 4 ^ i := by
          rw [Nat.mul_assoc, Nat.mul_assoc]
          congr 1
          rw [← Nat.mul_assoc, ← Nat.pow_succ, ← Nat.pow_add]
          congr 1
          omega
        rw [e2, Nat.add_mul_div_right _ _ hp, Nat.add_mul_mod_self_right]
        exact h i (by omega)
theorem lowD_at (r : Nat) : ∀ n i, i < n → (lowD (r : Int) n).getD i 0 = ((r / 4 ^ (n - 1 - i) % 4 : Nat) : Int)
  | 0, i, h => absurd h (Nat.not_lt_zero _)
  | n + 1, 0, _ => by
    simp only [lowD, List.getD_cons_zero, Nat.add_sub_cancel, Nat.sub_zero]
    push_cast; rfl
  | n + 1, i + 1, h => by
    simp only [lowD, List.getD_cons_succ]
    rw [lowD_at r n i (by omega)]
    congr 4
    omega
/-- The sizes of the parts of all sums of columns together, the rows turned by d. -/
def geI (f : Int → Int) (M : Nat → Nat → Int) (d : Nat → Int) (j k : Nat) : Int := sumN (fun i => f ((M i j + d i) % 4)) k
def geC (M : Nat → Nat → Int) (n : Nat) (d : Nat → Int) (j : Nat) : Int := ((geI vx M d j n).natAbs : Int) + ((geI vy M d j n).natAbs : Int)
def geS (M : Nat → Nat → Int) (n : Nat) (d : Nat → Int) : Int := sumN (geC M n d) n
theorem geI_small (f : Int → Int) (hf : ∀ x, -1 ≤ f x ∧ f x ≤ 1) (M : Nat → Nat → Int) (d : Nat → Int) (j k : Nat) : -(k : Int) ≤ geI f M d j k ∧ geI f M d j k ≤ k := sumN_bound _ (fun _ => hf _) k
theorem geC_small (M : Nat → Nat → Int) (n : Nat) (hn : n ≤ 8) (d : Nat → Int) (j : Nat) : 0 ≤ geC M n d j ∧ geC M n d j ≤ 16 := by
  have h1 := geI_small vx vx_one M d j n
  have h2 := geI_small vy vy_one M d j n
  unfold geC; omega
theorem geS_small (M : Nat → Nat → Int) (n : Nat) (hn : n ≤ 8) (d : Nat → Int) (k : Nat) : 0 ≤ sumN (geC M n d) k ∧ sumN (geC M n d) k ≤ k * 16 := sumN_up _ 16 (geC_small M n hn d) k
theorem geS_ext (M N : Nat → Nat → Int) (n : Nat) (d e : Nat → Int) (h : ∀ i j, i < n → j < n → (M i j + d i) % 4 = (N i j + e i) % 4) : geS M n d = geS N n e := by
  unfold geS
  refine sumN_ext _ _ _ (fun j hj => ?_)
  unfold geC
  have h1 : ∀ f, geI f M d j n = geI f N e j n := fun f => by
    unfold geI
    exact sumN_ext _ _ _ (fun i hi => by rw [h i j hi hj])
  rw [h1, h1]
/-- As the program turns, as the model turns. -/
def geP (M : Nat → Nat → Int) (n r : Nat) : Int := geS M n (fun i => (lowD (r : Int) n).getD i 0)
def geQ (M : Nat → Nat → Int) (n c : Nat) : Int := geS M n (fun i => ((c / 4 ^ i % 4 : Nat) : Int))
theorem ge_same (M : Nat → Nat → Int) (n : Nat) : maxN (geP M n) (4 ^ n) = maxN (geQ M n) (4 ^ n) := by
  refine maxN_same _ _ _ (fun r hr => ?_) (fun c hc => ?_)
  · obtain ⟨c, hc, h⟩ := digits_any (fun i => r / 4 ^ (n - 1 - i) % 4) (fun i => Nat.mod_lt _ (by omega)) n
    refine ⟨c, hc, geS_ext _ _ _ _ _ (fun i j hi hj => ?_)⟩
    rw [lowD_at r n i hi, h i hi]
  · obtain ⟨r, hr, h⟩ := digits_any (fun i => c / 4 ^ (n - 1 - i) % 4) (fun i => Nat.mod_lt _ (by omega)) n
    refine ⟨r, hr, geS_ext _ _ _ _ _ (fun i j hi hj => ?_)⟩
    rw [lowD_at r n i hi, h (n - 1 - i) (by omega), show n - 1 - (n - 1 - i) = i by omega]
def geOk (m : List (List Int)) : Bool := maOk m && decide (m.length ≤ 5)
def geA (m : List (List Int)) : Int := if geOk m then maxN (geQ (atM m) m.length) (4 ^ m.length) else 0
end Go.Proofs.Ytccjmigdebchiaa
