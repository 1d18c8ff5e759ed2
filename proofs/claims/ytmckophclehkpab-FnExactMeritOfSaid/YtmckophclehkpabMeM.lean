/- Merits: plain mathematics. -/
import Derived.Test.YtmckophclehkpabNrm
import Derived.Test.YtmckophclehkpabSeq
namespace Go.Proofs.Ytmckophclehkpab
open Go.RowKit

def meN (l : List Int) : Nat := l.length * l.length
def meD (l : List Int) : Nat := 2 * (sideE l).toNat
def meG (l : List Int) : Nat := Nat.gcd (meN l) (meD l)
def meOk (l : List Int) : Bool := isSeq l && decide (sideE l ≠ 0)
def meX (l : List Int) : Int := if meOk l then ((meN l / meG l : Nat) : Int) else 0
def meY (l : List Int) : Int := if meOk l then ((meD l / meG l : Nat) : Int) else 0
theorem me_facts (l : List Int) (hs : isSeq l = true) (he : sideE l ≠ 0) : ∃ E : Nat, sideE l = E ∧ 0 < E ∧ E ≤ 65536 ∧ meD l = 2 * E ∧ 0 < meG l ∧ meG l ≤ 131072 ∧ 0 < meD l / meG l ∧ meD l / meG l ≤ 131072 ∧ meN l ≤ 1024 := by
  have h32 := isSeq_len hs
  have hb := sideE_bound l h32
  obtain ⟨E, hE⟩ := Int.eq_ofNat_of_zero_le hb.1
  have hEp : 0 < E := by omega
  have hE2 : E ≤ 65536 := by omega
  have hD : meD l = 2 * E := by unfold meD; rw [hE, Int.toNat_natCast]
  have hg : 0 < meG l := by unfold meG; rw [hD]; exact Nat.gcd_pos_of_pos_right _ (by omega)
  have hg2 : meG l ≤ meD l := by unfold meG; exact Nat.gcd_le_right _ (by rw [hD]; omega)
  have hN : meN l ≤ 1024 := Nat.mul_le_mul h32 h32
  have hq : 0 < meD l / meG l := Nat.div_pos hg2 hg
  have hq2 : meD l / meG l ≤ meD l := Nat.div_le_self _ _
  exact ⟨E, hE, hEp, hE2, hD, hg, by omega, hq, by omega, hN⟩
theorem me_good (l : List Int) (hs : isSeq l = true) (he : sideE l ≠ 0) : meOk l = true ∧ meX l = ((meN l / meG l : Nat) : Int) ∧ meY l = ((meD l / meG l : Nat) : Int) := by
  have h : meOk l = true := by unfold meOk; rw [hs, decide_eq_true he]; rfl
  exact ⟨h, if_pos h, if_pos h⟩
theorem me_bad (l : List Int) (h : isSeq l = false ∨ sideE l = 0) : meOk l = false ∧ meX l = 0 ∧ meY l = 0 := by
  have h' : meOk l = false := by unfold meOk; rcases h with h | h <;> simp [h]
  exact ⟨h', if_neg (by rw [h']; exact Bool.false_ne_true), if_neg (by rw [h']; exact Bool.false_ne_true)⟩
end Go.Proofs.Ytmckophclehkpab
