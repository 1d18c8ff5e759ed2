/- The model's tfWalshOf. -/
import Derived.Test.YtccjmigdebchiaaSWa
import Derived.Test.YtccjmigdebchiaaSCvH
import Derived.Test.YtccjmigdebchiaaGMi
import Derived.Test.YtccjmigdebchiaaITr
namespace Go.Proofs.Ytccjmigdebchiaa
set_option maxRecDepth 100000
open Go.RowKit

/-- What the first k places have made of the numbers. -/
def wnF (s : Nat) (Z : Nat → Int × Int) (k i : Nat) : Int × Int := if (if i / s % 2 = 0 then i else i - s) < k then stF 2 2 s Z i else Z i
theorem wn_zero (s : Nat) (Z : Nat → Int × Int) : wnF s Z 0 = Z := by funext i; unfold wnF; rw [if_neg (Nat.not_lt_zero _)]
theorem wn_odd (s : Nat) (Z : Nat → Int × Int) (k : Nat) (h : k / s % 2 = 1) (hs : 0 < s) : wnF s Z (k + 1) = wnF s Z k := by
  funext i
  unfold wnF
  have hne : (if i / s % 2 = 0 then i else i - s) ≠ k := by
    split
    · rintro rfl; omega
    · rename_i h0
      intro e
      have hge : s ≤ i := by
        rcases Nat.lt_or_ge i s with hlt | hge
        · rw [Nat.div_eq_of_lt hlt] at h0; simp at h0
        · exact hge
      have : i = k + s := by omega
      rw [this, Nat.add_div_right _ hs] at h0
      omega
  have e1 : ((if i / s % 2 = 0 then i else i - s) < k + 1) = ((if i / s % 2 = 0 then i else i - s) < k) := propext (by omega)
  simp only [e1]
theorem wn_even (s : Nat) (Z : Nat → Int × Int) (k : Nat) (h : k / s % 2 = 0) (hs : 0 < s) (i : Nat) : wnF s Z (k + 1) i = if i = k then ((Z k).1 + (Z (k + s)).1, (Z k).2 + (Z (k + s)).2) else if i = k + s then ((Z k).1 + -(Z (k + s)).1, (Z k).2 + -(Z (k + s)).2) else wnF s Z k i := by
  have hq : k % (2 * s) < s := by
    have h1 : k % (2 * s) / s = k / s % 2 := by rw [Nat.mul_comm, Nat.mod_mul_right_div_self]
    rw [h] at h1
    rcases Nat.lt_or_ge (k % (2 * s)) s with hlt | hge
    · exact hlt
    · have := Nat.div_pos hge hs; omega
  have hk : k / (2 * s) * (2 * s) + k % (2 * s) = k := by rw [Nat.mul_comm]; exact Nat.div_add_mod k (2 * s)
  have hlo := w_low s Z (k / (2 * s)) (k % (2 * s)) hq
  have hhi := w_high s Z (k / (2 * s)) (k % (2 * s)) hq
  rw [hk] at hlo hhi
  have hks : (k + s) / s % 2 = 1 := by rw [Nat.add_div_right _ hs]; omega
  unfold wnF
  by_cases e : i = k
  · subst e
    rw [if_pos rfl, if_pos h, if_pos (by omega), hlo]
  · rw [if_neg e]
    by_cases e2 : i = k + s
    · subst e2
      have hin : (if (k + s) / s % 2 = 0 then k + s else k + s - s) = k := by rw [if_neg (by omega)]; omega
      rw [if_pos rfl, hin, if_pos (Nat.lt_succ_self _), hhi]
    · rw [if_neg e2]
      have hne : (if i / s % 2 = 0 then i else i - s) ≠ k := by
        split
        · exact e
        · rename_i h0
          intro e3
          have hge : s ≤ i := by
            rcases Nat.lt_or_ge i s with hlt | hge
            · rw [Nat.div_eq_of_lt hlt] at h0; simp at h0
            · exact hge
          omega
      have e1 : ((if i / s % 2 = 0 then i else i - s) < k + 1) = ((if i / s % 2 = 0 then i else i - s) < k) := propext (by omega)
      simp only [e1]
theorem wn_all (s n : Nat) (Z : Nat → Int × Int) (i : Nat) (hi : i < n) : wnF s Z n i = stF 2 2 s Z i := by
  unfold wnF
  rw [if_pos]
  split <;> omega
theorem wn_in (s n k : Nat) (hs : 0 < s) (hd : n % (2 * s) = 0) (h : k / s % 2 = 0) (hk : k < n) : k + s < n := by
  have hq : k % (2 * s) < s := by
    have h1 : k % (2 * s) / s = k / s % 2 := by rw [Nat.mul_comm, Nat.mod_mul_right_div_self]
    rw [h] at h1
    rcases Nat.lt_or_ge (k % (2 * s)) s with hlt | hge
    · exact hlt
    · have := Nat.div_pos hge hs; omega
  obtain ⟨m, hm⟩ : ∃ m, n = m * (2 * s) := ⟨n / (2 * s), by have := Nat.div_add_mod n (2 * s); rw [Nat.mul_comm]; omega⟩
  have h2 : k / (2 * s) < m := by
    have : k < m * (2 * s) := by rw [← hm]; exact hk
    exact Nat.div_lt_of_lt_mul (by rw [Nat.mul_comm]; exact this)
  have h3 : (k / (2 * s) + 1) * (2 * s) ≤ m * (2 * s) := Nat.mul_le_mul_right _ h2
  rw [Nat.add_mul, ← hm] at h3
  have h4 := Nat.div_add_mod k (2 * s)
  rw [Nat.mul_comm] at h4
  omega
end Go.Proofs.Ytccjmigdebchiaa
