/- Arrays that are made of others: plain mathematics. -/
import Derived.Test.YtjoepdflbbcliabArM
import Derived.Test.YtjoepdflbbcliabMaG
import Derived.Test.YtjoepdflbbcliabDShiftBy
import Derived.Test.YtjoepdflbbcliabMov
namespace Go.Proofs.Ytjoepdflbbcliab

set_option maxRecDepth 100000
def sideS (l : List Int) : Bool := isSeq l && sideB l.length
def otOk (a b : List Int) : Bool := sideS a && sideS b
def otL (a b : List Int) : List (List Int) := genR a.length (fun i => turnG b (a.getD i 0))
def otA (a b : List Int) : List (List Int) := if otOk a b then otL a b else []
def smL (s : List Int) : List (List Int) := genR s.length (fun i => shiftG s (i : Int))
def smA (s : List Int) : List (List Int) := if sideS s then smL s else []
def plOk (m : List (List Int)) (u v : Int) : Bool := arOk m && (inB u 0 ((m.length : Int) - 1) && inB v 0 ((colsOf m : Int) - 1))
def saL (m : List (List Int)) (u v : Int) : List (List Int) := genR m.length (fun i => shiftG (m.getD ((i + u.toNat) % m.length) []) v)
def saA (m : List (List Int)) (u v : Int) : List (List Int) := if plOk m u v then saL m u v else []
theorem sideS_parts {l : List Int} (h : sideS l = true) : isSeq l = true ∧ 1 ≤ l.length ∧ l.length ≤ 8 := by
  unfold sideS at h
  rw [Bool.and_eq_true] at h
  exact ⟨h.1, sideB_in h.2⟩
theorem arOk_seq {m : List (List Int)} (h : arOk m = true) (i : Nat) (hi : i < m.length) : isSeq (m.getD i []) = true := by
  have h1 := arOk_parts h
  have h2 := h1.2.2 i hi
  exact isSeq_of (by omega) h2.2
theorem plOk_parts {m : List (List Int)} {u v : Int} (h : plOk m u v = true) : arOk m = true ∧ (0 ≤ u ∧ u < m.length) ∧ (0 ≤ v ∧ v < colsOf m) := by
  unfold plOk at h
  rw [Bool.and_eq_true, Bool.and_eq_true] at h
  obtain ⟨h1, h2, h3⟩ := h
  simp [inB] at h2 h3
  exact ⟨h1, by omega, by omega⟩
theorem tot64 {n : Nat} {R : Nat → List Int} (hn : n ≤ 8) (h : ∀ i, i < n → (R i).length ≤ 32) : tot (genR n R) ≤ 1048576 := by
  have := tot_genR n 32 R h
  have : n * 32 ≤ 8 * 32 := Nat.mul_le_mul hn (Nat.le_refl _)
  omega
theorem otA_tot (a b : List Int) : tot (otA a b) ≤ 1048576 := by
  unfold otA
  split
  · rename_i h
    unfold otOk at h
    rw [Bool.and_eq_true] at h
    have ha := sideS_parts h.1
    have hb := sideS_parts h.2
    exact tot64 (by omega) (fun i _ => by unfold turnG; rw [gen_length]; omega)
  · simp [tot]
theorem smA_tot (s : List Int) : tot (smA s) ≤ 1048576 := by
  unfold smA
  split
  · rename_i h
    have ha := sideS_parts h
    exact tot64 (by omega) (fun i _ => by unfold shiftG; rw [gen_length]; omega)
  · simp [tot]
theorem saA_tot (m : List (List Int)) (u v : Int) : tot (saA m u v) ≤ 1048576 := by
  unfold saA
  split
  · rename_i h
    have ha := plOk_parts h
    have hp := arOk_parts ha.1
    exact tot64 (by omega) (fun i hi => by
      unfold shiftG; rw [gen_length]
      have := (hp.2.2 ((i + u.toNat) % m.length) (Nat.mod_lt _ (by omega))).1
      omega)
  · simp [tot]
end Go.Proofs.Ytjoepdflbbcliab
