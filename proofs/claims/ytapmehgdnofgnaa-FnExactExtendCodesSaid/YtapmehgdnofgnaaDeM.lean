/- Determinants of phases along the rows: plain. -/
import Derived.Test.YtapmehgdnofgnaaFlt
import Derived.Test.YtapmehgdnofgnaaCors
namespace Go.Proofs.Ytapmehgdnofgnaa

set_option maxRecDepth 100000
/-- The value of the phase p times a Gaussian number. -/
def dtT (p : Int) (z : Int × Int) : Int × Int := (vx p * z.1 - vy p * z.2, vx p * z.2 + vy p * z.1)
/-- The determinant of the rows from i on, d of them, and of the columns cols. -/
def dt (M : Nat → Nat → Int) : Nat → Nat → List Nat → Int × Int
  | 0, _, _ => (1, 0)
  | d + 1, i, cols => (sumN (fun k => (dtT ((M i (cols.getD k 0) + 2 * (k : Int)) % 4) (dt M d (i + 1) (cols.eraseIdx k))).1) cols.length,
      sumN (fun k => (dtT ((M i (cols.getD k 0) + 2 * (k : Int)) % 4) (dt M d (i + 1) (cols.eraseIdx k))).2) cols.length)
def dtK (M : Nat → Nat → Int) (d i : Nat) (cols : List Nat) (k : Nat) : Int × Int := dtT ((M i (cols.getD k 0) + 2 * (k : Int)) % 4) (dt M d (i + 1) (cols.eraseIdx k))
theorem dt_succ (M : Nat → Nat → Int) (d i : Nat) (cols : List Nat) : dt M (d + 1) i cols = (sumN (fun k => (dtK M d i cols k).1) cols.length, sumN (fun k => (dtK M d i cols k).2) cols.length) := rfl
def fac : Nat → Int
  | 0 => 1
  | d + 1 => (d + 1 : Nat) * fac d
theorem dtT_small (p : Int) (z : Int × Int) (b : Int) (h1 : -b ≤ z.1 ∧ z.1 ≤ b) (h2 : -b ≤ z.2 ∧ z.2 ≤ b) (hp : 0 ≤ p ∧ p ≤ 3) : (-b ≤ (dtT p z).1 ∧ (dtT p z).1 ≤ b) ∧ (-b ≤ (dtT p z).2 ∧ (dtT p z).2 ≤ b) := by
  unfold dtT
  rcases (show p = 0 ∨ p = 1 ∨ p = 2 ∨ p = 3 by omega) with rfl | rfl | rfl | rfl
  · rw [show vx 0 = 1 from rfl, show vy 0 = 0 from rfl]; dsimp only; omega
  · rw [show vx 1 = 0 from rfl, show vy 1 = 1 from rfl]; dsimp only; omega
  · rw [show vx 2 = -1 from rfl, show vy 2 = 0 from rfl]; dsimp only; omega
  · rw [show vx 3 = 0 from rfl, show vy 3 = -1 from rfl]; dsimp only; omega
theorem sumN_upto (g : Nat → Int) (b : Int) (n : Nat) (hg : ∀ i, i < n → -b ≤ g i ∧ g i ≤ b) : ∀ k, k ≤ n → -((k : Int) * b) ≤ sumN g k ∧ sumN g k ≤ (k : Int) * b
  | 0, _ => by simp [sumN]
  | k + 1, h => by
    have h1 := sumN_upto g b n hg k (by omega)
    have h2 := hg k (by omega)
    have e : ((k + 1 : Nat) : Int) * b = (k : Int) * b + b := by rw [Int.natCast_add, Int.add_mul]; simp
    simp only [sumN]
    rw [e]
    omega
theorem dt_small (M : Nat → Nat → Int) : ∀ d i cols, cols.length = d → (-(fac d) ≤ (dt M d i cols).1 ∧ (dt M d i cols).1 ≤ fac d) ∧ (-(fac d) ≤ (dt M d i cols).2 ∧ (dt M d i cols).2 ≤ fac d)
  | 0, _, _, _ => by simp [dt, fac]
  | d + 1, i, cols, h => by
    have key : ∀ k, k < d + 1 → (-(fac d) ≤ (dtK M d i cols k).1 ∧ (dtK M d i cols k).1 ≤ fac d) ∧ (-(fac d) ≤ (dtK M d i cols k).2 ∧ (dtK M d i cols k).2 ≤ fac d) := fun k hk => by
      have ih := dt_small M d (i + 1) (cols.eraseIdx k) (by rw [List.length_eraseIdx_of_lt (by omega)]; omega)
      exact dtT_small _ _ _ ih.1 ih.2 (by omega)
    rw [dt_succ, h]
    have h1 := sumN_upto (fun k => (dtK M d i cols k).1) (fac d) (d + 1) (fun k hk => (key k hk).1) (d + 1) (Nat.le_refl _)
    have h2 := sumN_upto (fun k => (dtK M d i cols k).2) (fac d) (d + 1) (fun k hk => (key k hk).2) (d + 1) (Nat.le_refl _)
    exact ⟨h1, h2⟩
theorem dtK_small (M : Nat → Nat → Int) (d i : Nat) (cols : List Nat) (h : cols.length = d + 1) (k : Nat) (hk : k < d + 1) : (-(fac d) ≤ (dtK M d i cols k).1 ∧ (dtK M d i cols k).1 ≤ fac d) ∧ (-(fac d) ≤ (dtK M d i cols k).2 ∧ (dtK M d i cols k).2 ≤ fac d) := by
  have ih := dt_small M d (i + 1) (cols.eraseIdx k) (by rw [List.length_eraseIdx_of_lt (by omega)]; omega)
  exact dtT_small _ _ _ ih.1 ih.2 (by omega)
theorem fac_le : ∀ d, d ≤ 5 → 1 ≤ fac d ∧ fac d ≤ 120 := by decide
theorem fac_four : ∀ d, d ≤ 4 → 1 ≤ fac d ∧ fac d ≤ 24 ∧ (d : Int) * fac d ≤ 96 := by decide
/-- The columns below j that are not taken. -/
def freeC (T : Nat → Bool) (j : Nat) : List Nat := (List.range j).filter (fun c => !(T c))
def tkC (T : Nat → Bool) (j : Nat) : Nat → Bool := fun c => if c = j then true else T c
theorem freeC_no (T : Nat → Bool) (j : Nat) (h : T j = false) : freeC T (j + 1) = freeC T j ++ [j] := by
  unfold freeC; rw [List.range_succ, List.filter_append]; simp [h]
theorem freeC_yes (T : Nat → Bool) (j : Nat) (h : T j = true) : freeC T (j + 1) = freeC T j := by
  unfold freeC; rw [List.range_succ, List.filter_append]; simp [h]
theorem freeC_tk (T : Nat → Bool) (j : Nat) : ∀ k, k ≤ j → freeC (tkC T j) k = freeC T k
  | 0, _ => rfl
  | k + 1, h => by
    have ih := freeC_tk T j k (by omega)
    unfold freeC at ih ⊢
    rw [List.range_succ, List.filter_append, List.filter_append, ih]
    have : tkC T j k = T k := by unfold tkC; rw [if_neg (by omega)]
    rw [show List.filter (fun c => !(tkC T j c)) [k] = List.filter (fun c => !(T c)) [k] by simp only [List.filter, this]]
/-- All the columns: those below j, j, and the others. -/
theorem freeC_split (T : Nat → Bool) (j : Nat) (h : T j = false) : ∀ n, j < n → ∃ rest, freeC T n = freeC T j ++ j :: rest ∧ freeC (tkC T j) n = freeC T j ++ rest
  | 0, hn => absurd hn (Nat.not_lt_zero _)
  | n + 1, hn => by
    by_cases e : n = j
    · subst e
      refine ⟨[], freeC_no T n h, ?_⟩
      have ht : tkC T n n = true := by unfold tkC; rw [if_pos rfl]
      rw [freeC_yes _ _ ht, freeC_tk T n n (Nat.le_refl _), List.append_nil]
    · obtain ⟨rest, h1, h2⟩ := freeC_split T j h n (by omega)
      have hk : tkC T j n = T n := by unfold tkC; rw [if_neg e]
      cases ht : T n with
      | true =>
        rw [freeC_yes T n ht, freeC_yes (tkC T j) n (by rw [hk, ht])]
        exact ⟨rest, h1, h2⟩
      | false =>
        rw [freeC_no T n ht, freeC_no (tkC T j) n (by rw [hk, ht]), h1, h2]
        exact ⟨rest ++ [n], by simp, by simp⟩
theorem free_at (T : Nat → Bool) (j n : Nat) (h : T j = false) (hj : j < n) : (freeC T n).getD (freeC T j).length 0 = j ∧ (freeC T n).eraseIdx (freeC T j).length = freeC (tkC T j) n ∧ (freeC T j).length < (freeC T n).length := by
  obtain ⟨rest, h1, h2⟩ := freeC_split T j h n hj
  rw [h1, h2]
  refine ⟨by simp [List.getD], ?_, by simp⟩
  rw [List.eraseIdx_append_of_length_le (Nat.le_refl _)]
  simp
end Go.Proofs.Ytapmehgdnofgnaa
