/- Data gathered: plain mathematics. -/
import Derived.Test.YtapmehgdnofgnabSp
import Derived.Test.YtapmehgdnofgnabTrsM
namespace Go.Proofs.Ytapmehgdnofgnab
set_option maxRecDepth 100000
open Go.RowKit

/-- The matches of a signal with codes. -/
def gaX (m : List (List Int)) (l : List (Int × Int)) (i : Nat) : Int := mtX l (m.getD i []) 0
def gaY (m : List (List Int)) (l : List (Int × Int)) (i : Nat) : Int := mtY l (m.getD i []) 0
def gaL (m : List (List Int)) (l : List (Int × Int)) : List (Int × Int) := genG m.length (gaX m l) (gaY m l)
def gaP (m : List (List Int)) (l : List (Int × Int)) : Bool := cdsOk m && orB m && hdOk l && decide (l.length = cdN m)
def gaB (m : List (List Int)) (l : List (Int × Int)) : Bool := gaP m l && shOk l.length (gaL m l)
def gaF (m : List (List Int)) (l : List (Int × Int)) : List (Int × Int) := if gaB m l then shL l.length (gaL m l) else []
/-- What is raised. -/
def gaK (m : List (List Int)) (l : List (Int × Int)) : Nat := if cdsOk m then (if orB m then kOf (hdOk l && decide (l.length = cdN m) && shTo l.length (gaL m l) m.length) else 2) else 1
theorem gaL_length (m : List (List Int)) (l : List (Int × Int)) : (gaL m l).length = m.length := genG_length _ _ _
theorem quo_small {n x : Int} (hn : 1 ≤ n) (h : x.tmod n = 0) (hx : -(n * 1000000) ≤ x ∧ x ≤ n * 1000000) : -1000000 ≤ x.tdiv n ∧ x.tdiv n ≤ 1000000 := by
  have e : n * x.tdiv n = x := by have := Int.tmod_add_mul_tdiv x n; rw [h] at this; omega
  obtain ⟨q, hq⟩ : ∃ q, q = x.tdiv n := ⟨_, rfl⟩
  rw [← hq] at e ⊢
  rw [← e] at hx
  constructor
  · refine Int.le_of_mul_le_mul_left (a := n) ?_ (by omega)
    have : n * -1000000 = -(n * 1000000) := by rw [Int.mul_neg]
    omega
  · exact Int.le_of_mul_le_mul_left (a := n) hx.2 (by omega)
theorem ga_le {m : List (List Int)} {l : List (Int × Int)} (hc : cdsOk m = true) (hd : hdOk l = true) (hn : l.length = cdN m) (i : Nat) (hi : i < m.length) :
    (-((l.length : Int) * 1000000) ≤ gaX m l i ∧ gaX m l i ≤ (l.length : Int) * 1000000) ∧ (-((l.length : Int) * 1000000) ≤ gaY m l i ∧ gaY m l i ≤ (l.length : Int) * 1000000) := by
  have hln := ((cdsOk_parts hc).2 i hi).2
  have hg := fun j (hj : j < (m.getD i []).length) => good_in (goodL_at (hdOk_good hd) (0 + j) (by omega))
  have h1 := sumN_le (fun j => nrX (gre l (0 + j)) (gim l (0 + j)) ((m.getD i []).getD j 0).toNat) 1000000 (m.getD i []).length (fun j hj => (nr_le (hg j hj).1 (hg j hj).2 _).1) (m.getD i []).length (Nat.le_refl _)
  have h2 := sumN_le (fun j => nrY (gre l (0 + j)) (gim l (0 + j)) ((m.getD i []).getD j 0).toNat) 1000000 (m.getD i []).length (fun j hj => (nr_le (hg j hj).1 (hg j hj).2 _).2) (m.getD i []).length (Nat.le_refl _)
  have e1 : gaX m l i = sumN (fun j => nrX (gre l (0 + j)) (gim l (0 + j)) ((m.getD i []).getD j 0).toNat) (m.getD i []).length := rfl
  have e2 : gaY m l i = sumN (fun j => nrY (gre l (0 + j)) (gim l (0 + j)) ((m.getD i []).getD j 0).toNat) (m.getD i []).length := rfl
  rw [← e1, hln, ← hn] at h1
  rw [← e2, hln, ← hn] at h2
  exact ⟨h1, h2⟩
theorem shTo_at {n : Int} {L : List (Int × Int)} {k i : Nat} (h : shTo n L k = true) (hi : i < k) : (gre L i).tmod n = 0 ∧ (gim L i).tmod n = 0 := by
  unfold shTo at h
  rw [List.all_eq_true] at h
  have := h i (List.mem_range.2 hi)
  unfold dvP at this
  rw [Bool.and_eq_true] at this
  exact ⟨of_decide_eq_true this.1, of_decide_eq_true this.2⟩
theorem ga_good {m : List (List Int)} {l : List (Int × Int)} (hc : cdsOk m = true) (hd : hdOk l = true) (hn : l.length = cdN m) (h : shTo l.length (gaL m l) m.length = true) : goodL (shL l.length (gaL m l)) = true := by
  have h1 := (cdN_len hc).1
  unfold shL
  rw [gaL_length]
  refine goodL_gen (fun i hi => ?_)
  have hm := shTo_at h hi
  have hl := ga_le hc hd hn i hi
  have ex : gre (gaL m l) i = gaX m l i := genG_re _ _ _ _ hi
  have ey : gim (gaL m l) i = gaY m l i := genG_im _ _ _ _ hi
  rw [ex, ey] at hm
  rw [ex, ey]
  have h2 := quo_small (n := (l.length : Int)) (by omega) hm.1 hl.1
  have h3 := quo_small (n := (l.length : Int)) (by omega) hm.2 hl.2
  unfold good
  simp
  omega
theorem gaK_eq (m : List (List Int)) (l : List (Int × Int)) : (gaK m l == 0) = gaB m l := by
  unfold gaK gaB gaP shOk
  rw [gaL_length]
  cases hc : cdsOk m with
  | false => rfl
  | true =>
    cases ho : orB m with
    | false => rfl
    | true =>
      cases hd : hdOk l with
      | false => rfl
      | true =>
        by_cases hn : l.length = cdN m
        · rw [decide_eq_true hn]
          cases hs : shTo l.length (gaL m l) m.length with
          | false => rfl
          | true =>
            rw [ga_good hc hd hn hs]
            rfl
        · rw [decide_eq_false hn]; rfl
theorem gaF_len (m : List (List Int)) (l : List (Int × Int)) : (gaF m l).length ≤ 1048576 := by
  unfold gaF
  split
  · rename_i h
    unfold gaB gaP at h
    simp only [Bool.and_eq_true] at h
    have := (cdsOk_parts h.1.1.1.1).1.2
    unfold shL
    rw [genG_length, gaL_length]
    omega
  · simp
end Go.Proofs.Ytapmehgdnofgnab
