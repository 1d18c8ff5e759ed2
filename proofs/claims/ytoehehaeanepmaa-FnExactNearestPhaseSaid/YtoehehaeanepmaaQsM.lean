/- Transforms of the values of sequences; flat sequences: plainly. -/
import Derived.Test.YtoehehaeanepmaaToM
import Derived.Test.YtoehehaeanepmaaKit
namespace Go.Proofs.Ytoehehaeanepmaa

set_option maxRecDepth 100000
def sqTf (s : List Int) : Bool := isSeq s && tfSz s.length
def vlL (s : List Int) : List (Int × Int) := genG s.length (fun i => vx (s.getD i 0)) (fun i => vy (s.getD i 0))
theorem vlL_len (s : List Int) : (vlL s).length = s.length := genG_length _ _ _
def tqA (s : List Int) : List (Int × Int) := if sqTf s then drL 1 (vlL s) else []
theorem sqTf_len {s : List Int} (h : sqTf s = true) : 1 ≤ s.length ∧ s.length ≤ 16 := by
  unfold sqTf at h
  have := tfSz_cases (Bool.and_eq_true_iff.1 h).2
  omega
theorem tqA_len (s : List Int) : (tqA s).length ≤ 1048576 := by
  unfold tqA
  cases h : sqTf s with
  | false => simp
  | true =>
    have := sqTf_len h
    rw [if_pos rfl, drL_len, vlL_len]
    omega
theorem vlL_le (s : List Int) : ∀ i, i < (vlL s).length → (-1 ≤ gre (vlL s) i ∧ gre (vlL s) i ≤ 1) ∧ (-1 ≤ gim (vlL s) i ∧ gim (vlL s) i ≤ 1) := fun i hi => by
  rw [vlL_len] at hi
  have e1 : gre (vlL s) i = vx (s.getD i 0) := genG_re _ _ _ i hi
  have e2 : gim (vlL s) i = vy (s.getD i 0) := genG_im _ _ _ i hi
  rw [e1, e2]
  exact ⟨vx_one _, vy_one _⟩
theorem vlL_le' (s : List Int) : ∀ i, i < (vlL s).length → (-1000000 ≤ gre (vlL s) i ∧ gre (vlL s) i ≤ 1000000) ∧ (-1000000 ≤ gim (vlL s) i ∧ gim (vlL s) i ≤ 1000000) := fun i hi => by
  have := vlL_le s i hi; omega
/-- The sums are small. -/
theorem tq_le {s : List Int} (h : sqTf s = true) (p : Nat) : (-16 ≤ drX 1 (vlL s) s.length p ∧ drX 1 (vlL s) s.length p ≤ 16) ∧ (-16 ≤ drY 1 (vlL s) s.length p ∧ drY 1 (vlL s) s.length p ≤ 16) := by
  have hl := sqTf_len h
  have hv := vlL_le s
  rw [vlL_len] at hv
  have hd : ∀ x, x < s.length → (-1 ≤ (drT 1 (vlL s) p x).1 ∧ (drT 1 (vlL s) p x).1 ≤ 1) ∧ (-1 ≤ (drT 1 (vlL s) p x).2 ∧ (drT 1 (vlL s) p x).2 ≤ 1) := fun x hx => dtT_small _ _ 1 (hv x hx).1 (hv x hx).2 (by omega)
  have h1 := sumN_upto (fun x => (drT 1 (vlL s) p x).1) 1 s.length (fun x hx => (hd x hx).1) s.length (Nat.le_refl _)
  have h2 := sumN_upto (fun x => (drT 1 (vlL s) p x).2) 1 s.length (fun x hx => (hd x hx).2) s.length (Nat.le_refl _)
  have e1 : drX 1 (vlL s) s.length p = sumN (fun x => (drT 1 (vlL s) p x).1) s.length := rfl
  have e2 : drY 1 (vlL s) s.length p = sumN (fun x => (drT 1 (vlL s) p x).2) s.length := rfl
  rw [e1, e2]
  omega
theorem tq_good {s : List Int} (h : sqTf s = true) : goodL (drL 1 (vlL s)) = true := by
  unfold drL
  rw [vlL_len]
  unfold goodL
  rw [List.all_eq_true]
  intro p hp
  unfold genG at hp
  rw [List.mem_map] at hp
  obtain ⟨i, hi, rfl⟩ := hp
  have := tq_le h i
  unfold good
  apply decide_eq_true
  dsimp only
  omega
def flAt (s : List Int) (p : Nat) : Bool := decide (norm (drX 1 (vlL s) s.length p) (drY 1 (vlL s) s.length p) = s.length)
def flTo (s : List Int) (k : Nat) : Bool := (List.range k).all (flAt s)
def flB (s : List Int) : Bool := flTo s s.length
theorem flTo_succ (s : List Int) (k : Nat) : flTo s (k + 1) = (flTo s k && flAt s k) := by
  unfold flTo; rw [List.range_succ, List.all_append]; simp
theorem fl_no {s : List Int} {k : Nat} (hk : k < s.length) (h : flAt s k = false) : flB s = false := by
  unfold flB flTo
  rw [List.all_eq_false]
  exact ⟨k, List.mem_range.2 hk, by rw [h]; simp⟩
theorem norm_small {x y : Int} (hx : -16 ≤ x ∧ x ≤ 16) (hy : -16 ≤ y ∧ y ≤ 16) : 0 ≤ norm x y ∧ norm x y ≤ 512 := by
  have sq : ∀ z : Int, -16 ≤ z ∧ z ≤ 16 → 0 ≤ z * z ∧ z * z ≤ 256 := fun z hz => by
    have e : z * z = (z.natAbs : Int) * z.natAbs := (Int.natAbs_mul_self' z).symm
    have h2 : z.natAbs * z.natAbs ≤ 16 * 16 := Nat.mul_le_mul (by omega) (by omega)
    rw [e, ← Int.natCast_mul]
    omega
  have h1 := sq x hx
  have h2 := sq y hy
  unfold norm
  omega
end Go.Proofs.Ytoehehaeanepmaa
