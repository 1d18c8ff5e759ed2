/- Orthogonal codes: plain mathematics. -/
import Derived.Test.YtapmehgdnofgnaaSpT
import Derived.Test.YtapmehgdnofgnaaMaG
namespace Go.Proofs.Ytapmehgdnofgnaa
set_option maxRecDepth 100000
open Go.RowKit

/-- What a slice of the call's own has: room for what it holds. -/
def capOk : Value → Prop
  | .slice _ n c => n ≤ c
  | _ => False
theorem ownsRow_cap {w : World} {B z n : Nat} {E : TypeId} {v : Value} {xs : List Value} (h : w.ownsRow B E z v n xs) : capOk v := by
  rcases h.2 with ⟨rfl, _⟩ | ⟨g, cap, cur, rfl, hg, hh, hn, rest⟩
  · exact Nat.le_refl _
  · exact hn
theorem OwnR.capOk {w : World} {B : Nat} {v : Value} {ll : List (List Int)} (h : OwnR w B v ll) : capOk v := by
  obtain ⟨rs, h, -, -⟩ := h
  exact ownsRow_cap h
/-- Codes i and j are orthogonal. -/
def oxB (m : List (List Int)) (i j : Nat) : Bool := decide (dtN (m.getD i []) (m.getD j []) = 0)
def oxRow (m : List (List Int)) (i k : Nat) : Bool := (List.range k).all (oxB m i)
def oxUp (m : List (List Int)) (k : Nat) : Bool := (List.range k).all (fun i => oxRow m i i)
/-- Each two are orthogonal. -/
def orB (m : List (List Int)) : Bool := oxUp m m.length
theorem oxRow_succ (m : List (List Int)) (i k : Nat) : oxRow m i (k + 1) = (oxRow m i k && oxB m i k) := by unfold oxRow; rw [List.range_succ, List.all_append]; simp
theorem oxUp_succ (m : List (List Int)) (k : Nat) : oxUp m (k + 1) = (oxUp m k && oxRow m k k) := by unfold oxUp; rw [List.range_succ, List.all_append]; simp
theorem oxRow_no {m : List (List Int)} {i j k : Nat} (hj : j < k) (h : oxB m i j = false) : oxRow m i k = false := by
  unfold oxRow
  rw [List.all_eq_false]
  exact ⟨j, List.mem_range.2 hj, by rw [h]; exact Bool.false_ne_true⟩
theorem oxUp_no {m : List (List Int)} {i k : Nat} (hi : i < k) (h : oxRow m i i = false) : oxUp m k = false := by
  unfold oxUp
  rw [List.all_eq_false]
  exact ⟨i, List.mem_range.2 hi, by simp only [h]; exact Bool.false_ne_true⟩
theorem orB_no {m : List (List Int)} {i j : Nat} (hi : i < m.length) (hj : j < i) (h : oxB m i j = false) : orB m = false := oxUp_no hi (oxRow_no hj h)
/-- All of them codes of one length. -/
def AllN (m : List (List Int)) (N : Nat) : Prop := ∀ i, i < m.length → isSeq (m.getD i []) = true ∧ (m.getD i []).length = N
theorem cdsOk_allN {m : List (List Int)} (h : cdsOk m = true) : AllN m (cdN m) := fun i hi => ⟨(cdOk_seq ((cdsOk_parts h).2 i hi).1).1, ((cdsOk_parts h).2 i hi).2⟩
theorem oxB_eq (m : List (List Int)) (i j : Nat) : oxB m i j = (decide (dtX (m.getD i []) (m.getD j []) = 0) && decide (dtY (m.getD i []) (m.getD j []) = 0)) := by
  unfold oxB dtN
  rw [← Bool.decide_and]
  exact decide_eq_decide.2 norm_zero
/-- What is told of codes. -/
def aoK (m : List (List Int)) : Nat := if cdsOk m then (if orB m then 0 else 2) else 1
def aoB (m : List (List Int)) : Bool := cdsOk m && orB m
/-- The norms of all matches. -/
def diL (m : List (List Int)) : List (List Int) := genR m.length (fun i => gen m.length (fun j => dtN (m.getD i []) (m.getD j [])))
def diA (m : List (List Int)) : List (List Int) := if cdsOk m then diL m else []
theorem diA_tot (m : List (List Int)) : tot (diA m) ≤ 1048576 := by
  unfold diA
  split
  · rename_i h
    have h8 := (cdsOk_parts h).1.2
    have := tot_genR m.length 8 (fun i => gen m.length (fun j => dtN (m.getD i []) (m.getD j []))) (fun i _ => by rw [gen_length]; exact h8)
    unfold diL
    omega
  · simp [tot]
theorem dt_good {a b : List Int} (ha : isSeq a = true) : good (dtX a b) (dtY a b) = true := by
  have h := ma_le (tvX 1 0 a) (tvY 1 0 a) b a.length (isSeq_len ha) (fun i hi => tv_le (B := 1000000) (by decide) (by decide) (isSeq_all ha) i hi) a.length (Nat.le_refl _)
  have h1 := sumN_le (fun i => nrX (tvX 1 0 a i) (tvY 1 0 a i) (b.getD i 0).toNat) 1 a.length (fun i hi => (nr_le (tv_le (B := 1) (by decide) (by decide) (isSeq_all ha) i hi).1 (tv_le (B := 1) (by decide) (by decide) (isSeq_all ha) i hi).2 _).1) a.length (Nat.le_refl _)
  have h2 := sumN_le (fun i => nrY (tvX 1 0 a i) (tvY 1 0 a i) (b.getD i 0).toNat) 1 a.length (fun i hi => (nr_le (tv_le (B := 1) (by decide) (by decide) (isSeq_all ha) i hi).1 (tv_le (B := 1) (by decide) (by decide) (isSeq_all ha) i hi).2 _).2) a.length (Nat.le_refl _)
  have h32 := isSeq_len ha
  have e1 : dtX a b = sumN (fun i => nrX (tvX 1 0 a i) (tvY 1 0 a i) (b.getD i 0).toNat) a.length := rfl
  have e2 : dtY a b = sumN (fun i => nrY (tvX 1 0 a i) (tvY 1 0 a i) (b.getD i 0).toNat) a.length := rfl
  rw [← e1] at h1
  rw [← e2] at h2
  unfold good
  simp
  omega
end Go.Proofs.Ytapmehgdnofgnaa
