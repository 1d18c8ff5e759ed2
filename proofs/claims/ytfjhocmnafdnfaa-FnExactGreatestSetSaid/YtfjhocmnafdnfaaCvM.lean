/- Products that go round and correlations of signals, plainly. -/
import Derived.Test.YtfjhocmnafdnfaaPlM
import Derived.Test.YtfjhocmnafdnfaaEgM
namespace Go.Proofs.Ytfjhocmnafdnfaa

set_option maxRecDepth 100000
def mulX (x y u v : Int) : Int := x * u - y * v
def mulY (x y u v : Int) : Int := x * v + y * u
theorem prod_le (x u : Int) (h1 : -1000000 ≤ x ∧ x ≤ 1000000) (h2 : -1000000 ≤ u ∧ u ≤ 1000000) : -1000000000000 ≤ x * u ∧ x * u ≤ 1000000000000 := by
  have e : (x * u).natAbs ≤ 1000000 * 1000000 := by
    rw [Int.natAbs_mul]
    exact Nat.mul_le_mul (by omega) (by omega)
  omega
theorem mulX_le {x y u v : Int} (h1 : -1000000 ≤ x ∧ x ≤ 1000000) (h2 : -1000000 ≤ y ∧ y ≤ 1000000) (h3 : -1000000 ≤ u ∧ u ≤ 1000000) (h4 : -1000000 ≤ v ∧ v ≤ 1000000) : -2000000000000 ≤ mulX x y u v ∧ mulX x y u v ≤ 2000000000000 := by
  have := prod_le x u h1 h3
  have := prod_le y v h2 h4
  unfold mulX; omega
theorem mulY_le {x y u v : Int} (h1 : -1000000 ≤ x ∧ x ≤ 1000000) (h2 : -1000000 ≤ y ∧ y ≤ 1000000) (h3 : -1000000 ≤ u ∧ u ≤ 1000000) (h4 : -1000000 ≤ v ∧ v ≤ 1000000) : -2000000000000 ≤ mulY x y u v ∧ mulY x y u v ≤ 2000000000000 := by
  have := prod_le x v h1 h4
  have := prod_le y u h2 h3
  unfold mulY; omega
def twOk (a b : List (Int × Int)) : Bool := (tfOk a && tfOk b) && decide (a.length = b.length)
def cvX (a b : List (Int × Int)) (u x : Nat) : Int := mulX (gre a x) (gim a x) (gre b (sbP u x)) (gim b (sbP u x))
def cvY (a b : List (Int × Int)) (u x : Nat) : Int := mulY (gre a x) (gim a x) (gre b (sbP u x)) (gim b (sbP u x))
def crX (a b : List (Int × Int)) (u x : Nat) : Int := mulX (gre a (adP x u)) (gim a (adP x u)) (gre b x) (-(gim b x))
def crY (a b : List (Int × Int)) (u x : Nat) : Int := mulY (gre a (adP x u)) (gim a (adP x u)) (gre b x) (-(gim b x))
/-- The sums of the terms t. -/
def sumL (t s : Nat → Nat → Int) (n : Nat) : List (Int × Int) := genG n (fun u => sumN (t u) n) (fun u => sumN (s u) n)
def cvOk (a b : List (Int × Int)) : Bool := twOk a b && goodL (sumL (cvX a b) (cvY a b) a.length)
def cvA (a b : List (Int × Int)) : List (Int × Int) := if cvOk a b then sumL (cvX a b) (cvY a b) a.length else []
def crOk2 (a b : List (Int × Int)) : Bool := twOk a b && goodL (sumL (crX a b) (crY a b) a.length)
def crA2 (a b : List (Int × Int)) : List (Int × Int) := if crOk2 a b then sumL (crX a b) (crY a b) a.length else []
theorem sumL_len (t s : Nat → Nat → Int) (n : Nat) : (sumL t s n).length = n := genG_length _ _ _
theorem twOk_parts {a b : List (Int × Int)} (h : twOk a b = true) : tfOk a = true ∧ tfOk b = true ∧ a.length = b.length := by
  unfold twOk at h
  rw [Bool.and_eq_true_iff, Bool.and_eq_true_iff] at h
  exact ⟨h.1.1, h.1.2, of_decide_eq_true h.2⟩
theorem cvA_len (a b : List (Int × Int)) : (cvA a b).length ≤ 1048576 := by
  unfold cvA
  cases h : cvOk a b with
  | false => simp
  | true =>
    unfold cvOk at h
    have := tfOk_len (twOk_parts (Bool.and_eq_true_iff.1 h).1).1
    rw [if_pos rfl, sumL_len]
    omega
theorem crA2_len (a b : List (Int × Int)) : (crA2 a b).length ≤ 1048576 := by
  unfold crA2
  cases h : crOk2 a b with
  | false => simp
  | true =>
    unfold crOk2 at h
    have := tfOk_len (twOk_parts (Bool.and_eq_true_iff.1 h).1).1
    rw [if_pos rfl, sumL_len]
    omega
theorem good_at {l : List (Int × Int)} (h : tfOk l = true) (i : Nat) (hi : i < l.length) : (-1000000 ≤ gre l i ∧ gre l i ≤ 1000000) ∧ (-1000000 ≤ gim l i ∧ gim l i ≤ 1000000) := good_in (goodL_at (tfOk_good h) i hi)
theorem cv_le {a b : List (Int × Int)} (h : twOk a b = true) (u x : Nat) (hu : u < a.length) (hx : x < a.length) : (-2000000000000 ≤ cvX a b u x ∧ cvX a b u x ≤ 2000000000000) ∧ (-2000000000000 ≤ cvY a b u x ∧ cvY a b u x ≤ 2000000000000) := by
  obtain ⟨h1, h2, h3⟩ := twOk_parts h
  have ga := good_at h1 x hx
  have gb := good_at h2 (sbP u x) (by rw [← h3]; exact sbP_lt (tfOk_sz h1) u x hu hx)
  exact ⟨mulX_le ga.1 ga.2 gb.1 gb.2, mulY_le ga.1 ga.2 gb.1 gb.2⟩
theorem cr_le {a b : List (Int × Int)} (h : twOk a b = true) (u x : Nat) (hu : u < a.length) (hx : x < a.length) : (-2000000000000 ≤ crX a b u x ∧ crX a b u x ≤ 2000000000000) ∧ (-2000000000000 ≤ crY a b u x ∧ crY a b u x ≤ 2000000000000) := by
  obtain ⟨h1, h2, h3⟩ := twOk_parts h
  have ga := good_at h1 (adP x u) (adP_lt (tfOk_sz h1) x u hx hu)
  have gb := good_at h2 x (by rw [← h3]; exact hx)
  exact ⟨mulX_le ga.1 ga.2 gb.1 (by omega), mulY_le ga.1 ga.2 gb.1 (by omega)⟩
theorem sumT_le (t : Nat → Int) (n : Nat) (hn : n ≤ 16) (ht : ∀ x, x < n → -2000000000000 ≤ t x ∧ t x ≤ 2000000000000) (k : Nat) (hk : k ≤ n) : -32000000000000 ≤ sumN t k ∧ sumN t k ≤ 32000000000000 := by
  have h : ∀ k, k ≤ n → -((k : Int) * 2000000000000) ≤ sumN t k ∧ sumN t k ≤ (k : Int) * 2000000000000 := by
    intro k
    induction k with
    | zero => intro _; simp [sumN]
    | succ k ih =>
      intro hk
      have h1 := ih (by omega)
      have h2 := ht k (by omega)
      simp only [sumN]
      omega
  have := h k hk
  omega
theorem sb_ad (x y : Nat) (hx : x < 16) (hy : y < 16) : sbP (adP x y) x = y := by
  have h : ∀ x, x < 16 → ∀ y, y < 16 → sbP (adP x y) x = y := by decide +kernel
  exact h x hx y hy
theorem ad_sb (u x : Nat) (hu : u < 16) (hx : x < 16) : adP x (sbP u x) = u := by
  have h : ∀ u, u < 16 → ∀ x, x < 16 → adP x (sbP u x) = u := by decide +kernel
  exact h u hu x hx
end Go.Proofs.Ytfjhocmnafdnfaa
