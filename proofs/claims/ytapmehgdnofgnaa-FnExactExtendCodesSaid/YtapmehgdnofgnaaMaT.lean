/- Rows turned and exchanged: plain. -/
import Derived.Test.YtapmehgdnofgnaaMaG
import Derived.Test.YtapmehgdnofgnaaMov
import Derived.Test.YtapmehgdnofgnaaRw
namespace Go.Proofs.Ytapmehgdnofgnaa

set_option maxRecDepth 100000
def trM (m : List (List Int)) (i : Nat) (k : Int) : List (List Int) := m.set i (turnG (m.getD i []) k)
theorem trM_length (m : List (List Int)) (i : Nat) (k : Int) : (trM m i k).length = m.length := by simp [trM]
theorem trM_row (m : List (List Int)) (i : Nat) (k : Int) (hi : i < m.length) (j : Nat) : (trM m i k).getD j [] = if j = i then turnG (m.getD i []) k else m.getD j [] := getD_set _ _ _ _ _ hi
theorem turnG_len' (l : List Int) (k : Int) : (turnG l k).length = l.length := gen_length _ _
theorem maOk_tr {m : List (List Int)} (h : maOk m = true) (i : Nat) (k : Int) (hi : i < m.length) : maOk (trM m i k) = true := by
  refine maOk_of (by rw [trM_length]; exact (maOk_parts h).1) (fun j hj => ?_) (fun j c hj hc => ?_)
  · rw [trM_length] at hj ⊢
    rw [trM_row m i k hi j]
    split
    · rw [turnG_len']; exact maOk_sq h i hi
    · exact maOk_sq h j hj
  · rw [trM_length] at hj hc
    show 0 ≤ ((trM m i k).getD j []).getD c 0 ∧ ((trM m i k).getD j []).getD c 0 ≤ 3
    rw [trM_row m i k hi j]
    split
    · unfold turnG
      rw [gen_getD _ _ _ (by rw [maOk_sq h i hi]; exact hc)]
      omega
    · exact maOk_ph h j c hj hc
def swM (m : List (List Int)) (i j : Nat) : List (List Int) := (m.set i (m.getD j [])).set j (m.getD i [])
theorem swM_length (m : List (List Int)) (i j : Nat) : (swM m i j).length = m.length := by simp [swM]
def trOk (m : List (List Int)) (i k : Int) : Bool := maRow m i && inB k 0 3
def trA (m : List (List Int)) (i k : Int) : List (List Int) := if trOk m i k then trM m i.toNat k else []
def tcA (m : List (List Int)) (i k : Int) : List (List Int) := if trOk m i k then ovL (trM (ovL m) i.toNat k) else []
def swOk (m : List (List Int)) (i j : Int) : Bool := maRow m i && maRow m j
def swA (m : List (List Int)) (i j : Int) : List (List Int) := if swOk m i j then swM m i.toNat j.toNat else []
def ovA (m : List (List Int)) : List (List Int) := if maOk m then ovL m else []
theorem maRow_parts {m : List (List Int)} {i : Int} (h : maRow m i = true) : maOk m = true ∧ 0 ≤ i ∧ i.toNat < m.length ∧ i < m.length := by
  unfold maRow inB at h
  simp only [Bool.and_eq_true, decide_eq_true_eq] at h
  exact ⟨h.1, h.2.1, by omega, by omega⟩
theorem ma_tot {m : List (List Int)} (h : maOk m = true) : tot m ≤ 1048576 := by
  have := sq_tot (maOk_sq h) (maOk_le h)
  omega
theorem ovA_tot (m : List (List Int)) : tot (ovA m) ≤ 1048576 := by
  unfold ovA; split
  · rename_i h; exact ma_tot (maOk_ov h)
  · simp [tot]
theorem trA_tot (m : List (List Int)) (i k : Int) : tot (trA m i k) ≤ 1048576 := by
  unfold trA; split
  · rename_i h
    unfold trOk at h
    rw [Bool.and_eq_true] at h
    obtain ⟨h1, -, h3, -⟩ := maRow_parts h.1
    exact ma_tot (maOk_tr h1 _ k h3)
  · simp [tot]
theorem tcA_tot (m : List (List Int)) (i k : Int) : tot (tcA m i k) ≤ 1048576 := by
  unfold tcA; split
  · rename_i h
    unfold trOk at h
    rw [Bool.and_eq_true] at h
    obtain ⟨h1, -, h3, -⟩ := maRow_parts h.1
    exact ma_tot (maOk_ov (maOk_tr (maOk_ov h1) _ k (by rw [ovL_length]; exact h3)))
  · simp [tot]
theorem swM_sq {m : List (List Int)} (h : sqM m) (i j : Nat) (hi : i < m.length) (hj : j < m.length) : sqM (swM m i j) := fun c hc => by
  rw [swM_length] at hc ⊢
  unfold swM
  rw [getD_set _ _ _ _ _ (by simpa using hj), getD_set _ _ _ _ _ hi]
  split
  · exact h i hi
  · split
    · exact h j hj
    · exact h c hc
theorem swA_tot (m : List (List Int)) (i j : Int) : tot (swA m i j) ≤ 1048576 := by
  unfold swA; split
  · rename_i h
    unfold swOk at h
    rw [Bool.and_eq_true] at h
    obtain ⟨h1, -, h3, -⟩ := maRow_parts h.1
    obtain ⟨-, -, h5, -⟩ := maRow_parts h.2
    have := sq_tot (swM_sq (maOk_sq h1) i.toNat j.toNat h3 h5) (by rw [swM_length]; exact maOk_le h1)
    omega
  · simp [tot]
end Go.Proofs.Ytapmehgdnofgnaa
