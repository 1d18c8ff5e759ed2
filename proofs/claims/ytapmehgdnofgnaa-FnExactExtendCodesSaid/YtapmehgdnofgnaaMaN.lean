/- Normal form: every row turned by its first phase: plain. -/
import Derived.Test.YtapmehgdnofgnaaMaT
namespace Go.Proofs.Ytapmehgdnofgnaa

set_option maxRecDepth 100000
def nmR (m : List (List Int)) (i : Nat) : List Int := turnG (m.getD i []) (-(atM m i 0))
/-- The first j rows turned. -/
def nmP (m : List (List Int)) (j : Nat) : List (List Int) := genR m.length (fun i => if i < j then nmR m i else m.getD i [])
theorem nmP_length (m : List (List Int)) (j : Nat) : (nmP m j).length = m.length := genR_length _ _
theorem nmP_zero (m : List (List Int)) : nmP m 0 = m := by
  rw [show nmP m 0 = genR m.length (fun i => m.getD i []) from genR_ext (fun i _ => by simp), genR_self]
theorem nmP_at (m : List (List Int)) (j : Nat) (h : j < m.length) : (nmP m j).getD j [] = m.getD j [] := by
  unfold nmP
  rw [genR_getD _ _ _ h, if_neg (Nat.lt_irrefl _)]
theorem getD_ext {α : Type} (l m : List α) (d : α) (hl : l.length = m.length) (h : ∀ i, i < l.length → l.getD i d = m.getD i d) : l = m := by
  apply List.ext_getElem hl
  intro i h1 h2
  have := h i h1
  simpa [List.getD, h1, h2] using this
theorem nmP_set (m : List (List Int)) (j : Nat) (h : j < m.length) : (nmP m j).set j (nmR m j) = nmP m (j + 1) := by
  apply getD_ext _ _ []
  · simp [nmP_length]
  · intro i hi
    rw [List.length_set, nmP_length] at hi
    rw [getD_set _ _ _ _ _ (by rw [nmP_length]; exact h)]
    unfold nmP
    rw [genR_getD _ _ _ hi, genR_getD _ _ _ hi]
    by_cases e : i = j
    · subst e; rw [if_pos rfl, if_pos (by omega)]
    · rw [if_neg e]
      by_cases e2 : i < j
      · rw [if_pos e2, if_pos (by omega)]
      · rw [if_neg e2, if_neg (by omega)]
def nmL (m : List (List Int)) : List (List Int) := genR m.length (nmR m)
theorem nmP_full (m : List (List Int)) : nmP m m.length = nmL m := genR_ext (fun i hi => by rw [if_pos hi])
theorem nmL_length (m : List (List Int)) : (nmL m).length = m.length := genR_length _ _
theorem maOk_nm {m : List (List Int)} (h : maOk m = true) : maOk (nmL m) = true := by
  refine maOk_of (by rw [nmL_length]; exact (maOk_parts h).1) (fun i hi => ?_) (fun i c hi hc => ?_)
  · rw [nmL_length] at hi ⊢
    unfold nmL
    rw [genR_getD _ _ _ hi]
    unfold nmR
    rw [turnG_len']
    exact maOk_sq h i hi
  · rw [nmL_length] at hi hc
    show 0 ≤ ((nmL m).getD i []).getD c 0 ∧ ((nmL m).getD i []).getD c 0 ≤ 3
    unfold nmL
    rw [genR_getD _ _ _ hi]
    unfold nmR turnG
    rw [gen_getD _ _ _ (by rw [maOk_sq h i hi]; exact hc)]
    omega
def noL (m : List (List Int)) : List (List Int) := nmL (ovL (nmL (ovL m)))
def noA (m : List (List Int)) : List (List Int) := if maOk m then noL m else []
theorem noA_tot (m : List (List Int)) : tot (noA m) ≤ 1048576 := by
  unfold noA; split
  · rename_i h; exact ma_tot (maOk_nm (maOk_ov (maOk_nm (maOk_ov h))))
  · simp [tot]
end Go.Proofs.Ytapmehgdnofgnaa
