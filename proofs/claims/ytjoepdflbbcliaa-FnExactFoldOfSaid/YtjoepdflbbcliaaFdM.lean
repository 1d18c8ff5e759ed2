/- Folded sequences: plain mathematics. -/
import Derived.Test.YtjoepdflbbcliaaUfM
namespace Go.Proofs.Ytjoepdflbbcliaa

set_option maxRecDepth 100000
/-- What lies at i, j when t phases have been laid. -/
def fdC (s : List Int) (n c : Nat) : Nat → Nat → Nat → Int
  | 0 => fun _ _ => 0
  | t + 1 => fun i j => if i = t % n ∧ j = t % c then s.getD t 0 else fdC s n c t i j
def fdL (s : List Int) (n c t : Nat) : List (List Int) := genR n (fun i => gen c (fdC s n c t i))
def foldOk (s : List Int) (r : Int) : Bool := isSeq s && (decide (1 ≤ s.length) && (inB r 1 8 && (decide (s.length % r.toNat = 0) && (decide (s.length / r.toNat ≤ 8) && decide (gcdN r.toNat (s.length / r.toNat) = 1)))))
def foldA (s : List Int) (r : Int) : List (List Int) := if foldOk s r then fdL s r.toNat (s.length / r.toNat) s.length else []
theorem foldOk_parts {s : List Int} {r : Int} (h : foldOk s r = true) : isSeq s = true ∧ 1 ≤ s.length ∧ (1 ≤ r ∧ r ≤ 8) ∧ s.length % r.toNat = 0 ∧ s.length / r.toNat ≤ 8 ∧ gcdN r.toNat (s.length / r.toNat) = 1 := by
  unfold foldOk at h
  simp only [Bool.and_eq_true, decide_eq_true_eq] at h
  obtain ⟨h1, h2, h3, h4, h5, h6⟩ := h
  refine ⟨h1, h2, ?_, h4, h5, h6⟩
  simp [inB] at h3
  omega
theorem foldA_tot (s : List Int) (r : Int) : tot (foldA s r) ≤ 1048576 := by
  unfold foldA
  split
  · rename_i h
    have := foldOk_parts h
    exact tot64 (by omega) (fun i _ => by rw [gen_length]; omega)
  · simp [tot]
theorem fdL_length (s : List Int) (n c t : Nat) : (fdL s n c t).length = n := genR_length _ _
theorem fdL_row (s : List Int) (n c t i : Nat) (hi : i < n) : (fdL s n c t).getD i [] = gen c (fdC s n c t i) := genR_getD _ _ _ hi
theorem fdL_set (s : List Int) (n c t : Nat) (hn : 0 < n) : (fdL s n c t).set (t % n) ((gen c (fdC s n c t (t % n))).set (t % c) (s.getD t 0)) = fdL s n c (t + 1) := by
  apply List.ext_getElem?
  intro i
  have hm : t % n < n := Nat.mod_lt _ hn
  by_cases hi : i < n
  · by_cases e : i = t % n
    · subst e
      rw [List.getElem?_set_self (by rw [fdL_length]; exact hi), gen_set]
      simp only [fdL, genR, List.getElem?_map, List.getElem?_range hi, Option.map_some]
      congr 1
      refine gen_ext (fun j _ => ?_)
      show _ = if t % n = t % n ∧ j = t % c then s.getD t 0 else fdC s n c t (t % n) j
      by_cases hj : j = t % c
      · rw [if_pos hj, if_pos ⟨rfl, hj⟩]
      · rw [if_neg hj, if_neg (fun h => hj h.2)]
    · rw [List.getElem?_set_ne (fun h => e h.symm)]
      simp only [fdL, genR, List.getElem?_map, List.getElem?_range hi, Option.map_some]
      congr 1
      refine gen_ext (fun j _ => ?_)
      show fdC s n c t i j = if i = t % n ∧ j = t % c then s.getD t 0 else fdC s n c t i j
      rw [if_neg (fun h => e h.1)]
  · rw [List.getElem?_eq_none (by rw [List.length_set, fdL_length]; omega), List.getElem?_eq_none (by rw [fdL_length]; omega)]
/-- The first a rows are made, of zeros, the others are not. -/
def fdZ (n c a : Nat) : List (List Int) := genR n (fun i => if i < a then List.replicate c 0 else [])
theorem fdZ_length (n c a : Nat) : (fdZ n c a).length = n := genR_length _ _
theorem fdZ_start (n c : Nat) : List.replicate n [] = fdZ n c 0 := by
  unfold fdZ genR
  simp [List.map_const']
theorem fdZ_step (n c a : Nat) : (fdZ n c a).set a (List.replicate c 0) = fdZ n c (a + 1) := by
  apply List.ext_getElem?
  intro i
  by_cases hi : i < n
  · by_cases e : i = a
    · subst e
      rw [List.getElem?_set_self (by rw [fdZ_length]; exact hi)]
      simp [fdZ, genR, hi]
    · rw [List.getElem?_set_ne (fun h => e h.symm)]
      have e1 : (i < a + 1) = (i < a) := propext (by omega)
      simp [fdZ, genR, hi, e1]
  · rw [List.getElem?_eq_none (by rw [List.length_set, fdZ_length]; omega), List.getElem?_eq_none (by rw [fdZ_length]; omega)]
theorem fdZ_end (s : List Int) (n c : Nat) : fdZ n c n = fdL s n c 0 := by
  unfold fdZ fdL
  refine genR_ext (fun i hi => ?_)
  rw [if_pos hi]
  unfold gen fdC
  simp [List.map_const']
end Go.Proofs.Ytjoepdflbbcliaa
