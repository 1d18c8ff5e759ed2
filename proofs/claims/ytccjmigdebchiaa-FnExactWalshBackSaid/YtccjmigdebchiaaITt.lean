/- The program's transformOf and TransformOf. -/
import Derived.Test.YtccjmigdebchiaaITr
import Derived.Test.YtccjmigdebchiaaISg
import Derived.Test.YtccjmigdebchiaaISl
import Derived.Test.YtccjmigdebchiaaToM
namespace Go.Proofs.Ytccjmigdebchiaa
set_option maxRecDepth 100000
open Go.RowKit

/-- The numbers of a row of sums, as a list: fails where a sum is no Gaussian number, rounded or not. -/
theorem list_FA (g n : Nat) (B : Nat) (E : Nat → Nat × Nat) (Z : Nat → Int × Int) (h : ∀ i, i < n → FA (E i).1 (Z i).1 ∧ FA (E i).2 (Z i).2) (h1 : 1 ≤ n) (h32 : n ≤ 32) (w : World) (hr : RowC w B g n E) :
    Calls Try.prog 53 #[.slice (some ⟨g, 0, none⟩) n n] w (MakesGB w (if goodL (genG n (fun i => (Z i).1) (fun i => (Z i).2)) then genG n (fun i => (Z i).1) (fun i => (Z i).2) else []) (goodL (genG n (fun i => (Z i).1) (fun i => (Z i).2)))) := by
  have hx : ∀ i, i < n → ∃ r s, floatToIntVal .f32 (E i).1 .i64 = some r ∧ floatToIntVal .f32 (E i).2 .i64 = some s ∧ good r s = good (Z i).1 (Z i).2 ∧ (good r s = true → r = (Z i).1 ∧ s = (Z i).2) := fun i hi => by
    obtain ⟨r, e1, a1, a2⟩ := FA_toInt (h i hi).1
    obtain ⟨s, e2, b1, b2⟩ := FA_toInt (h i hi).2
    refine ⟨r, s, e1, e2, ?_, fun hg => ?_⟩
    · unfold good
      rw [decide_eq_decide]
      by_cases c1 : (Z i).1.natAbs < 16777216
      · rw [a1 c1]
        by_cases c2 : (Z i).2.natAbs < 16777216
        · rw [b1 c2]
        · have := b2 (by omega); omega
      · have := a2 (by omega); omega
    · have hg := good_in hg
      by_cases c1 : (Z i).1.natAbs < 16777216
      · by_cases c2 : (Z i).2.natAbs < 16777216
        · exact ⟨a1 c1, b1 c2⟩
        · have := b2 (by omega); omega
      · have := a2 (by omega); omega
  have hl := list_any g n B E (fun i => (floatToIntVal .f32 (E i).1 .i64).getD 0) (fun i => (floatToIntVal .f32 (E i).2 .i64).getD 0) (fun i hi => by
    obtain ⟨r, s, e1, e2, -, -⟩ := hx i hi
    simp only [e1, e2, Option.getD_some, and_self]) h1 h32 w hr
  have hg : goodL (genG n (fun i => (floatToIntVal .f32 (E i).1 .i64).getD 0) (fun i => (floatToIntVal .f32 (E i).2 .i64).getD 0)) = goodL (genG n (fun i => (Z i).1) (fun i => (Z i).2)) := by
    unfold goodL genG
    rw [List.all_map, List.all_map]
    rw [Bool.eq_iff_iff, List.all_eq_true, List.all_eq_true]
    constructor
    · intro H i hi
      obtain ⟨r, s, e1, e2, e3, -⟩ := hx i (List.mem_range.1 hi)
      have := H i hi
      simp only [Function.comp, e1, e2, Option.getD_some] at this ⊢
      rw [← e3]; exact this
    · intro H i hi
      obtain ⟨r, s, e1, e2, e3, -⟩ := hx i (List.mem_range.1 hi)
      have := H i hi
      simp only [Function.comp, e1, e2, Option.getD_some] at this ⊢
      rw [e3]; exact this
  rw [hg] at hl
  cases hq : goodL (genG n (fun i => (Z i).1) (fun i => (Z i).2)) with
  | false =>
    rw [hq, if_neg Bool.false_ne_true] at hl
    rw [if_neg Bool.false_ne_true]
    exact hl
  | true =>
    have he : genG n (fun i => (floatToIntVal .f32 (E i).1 .i64).getD 0) (fun i => (floatToIntVal .f32 (E i).2 .i64).getD 0) = genG n (fun i => (Z i).1) (fun i => (Z i).2) := by
      have hG := hq
      unfold goodL genG at hG
      rw [List.all_map, List.all_eq_true] at hG
      have key : ∀ i, i < n → (floatToIntVal .f32 (E i).1 .i64).getD 0 = (Z i).1 ∧ (floatToIntVal .f32 (E i).2 .i64).getD 0 = (Z i).2 := fun i hi => by
        obtain ⟨r, s, e1, e2, e3, e4⟩ := hx i hi
        have hgi : good (Z i).1 (Z i).2 = true := hG i (List.mem_range.2 hi)
        rw [← e3] at hgi
        rw [e1, e2]
        exact e4 hgi
      exact genG_ext (fun i hi => (key i hi).1) (fun i hi => (key i hi).2)
    rw [hq, if_pos rfl, he] at hl
    rw [if_pos rfl]
    exact hl

end Go.Proofs.Ytccjmigdebchiaa
