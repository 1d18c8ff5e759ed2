/- FnExactTimesGauss returns true, whatever the arguments. -/
import Derived.Test.YtkkcdabcoafflaaLaw
import Derived.Test.YtkkcdabcoafflaaTwoG
import Derived.Test.YtkkcdabcoafflaaGau
namespace Go.Proofs.Ytkkcdabcoafflaa
open Go.ChangeShapes Go.WideShapes Go.ChangeAt Go.RowKit Go.Joins

theorem cellsG_timesGauss : Try.prog.cellsOf 23 = 2 := by kernel_rfl
theorem timesGauss_params : ∀ t ∈ Try.f5.params.toList, Try.prog.readableRec t = true ∧ t < Try.prog.types.size := by
  rw [Try.params5]
  intro t ht
  simp at ht
  subst ht
  exact ⟨by kernel_rfl, of_decide_eq_true (by kernel_rfl)⟩
set_option maxRecDepth 100000 in
theorem timesGauss_lifted (os : Os) (started : os.Started) (H : Type) (enc : TypeId × Value → H) :
    ReturnsInHanded {} Try.checked os 5 .any (Rows.fnExactTimesGaussSpec.pre6 enc Try.prog Try.f5 Rows.fnExactTimesGaussRow.domain false) (Rows.fnExactTimesGaussSpec.post enc Try.prog Try.f5 false true false false) := by
  refine returnsInHanded_of_change (C := Try.checked) own started (by kernel_rfl) Try.func5
    (ChangeSpec.witness6 (enc := enc) (C := Try.checked) false ⟨#[], #[.agg #[.int .i64 0, .int .i64 0], .agg #[.int .i64 0, .int .i64 0]], []⟩ 8 (by kernel_rfl) (by kernel_rfl) (by kernel_rfl) (by kernel_rfl)) ?_
  intro W base args ds gs before hval0 hW _ _
  have hval : ∀ (j : Nat) t v, Try.f5.params[j]? = some t → args[j]? = some v → Value.okWide Try.prog W .any base t v := hval0
  have hW' := hW
  obtain ⟨p, q, hA0, hV, rfl, _, _⟩ := hW
  have hA : DataW.TrodAll enc Try.prog W 0 (fun _ => true) true Try.f5.params.toList args.toList ds p := hA0
  rw [Try.params5] at hA hval
  obtain ⟨v0, v1, d0, d1, p0, p1, rfl, rfl, rfl, h0, h1⟩ := trodAll_two hA
  obtain ⟨rfl, rfl⟩ := trodVars_none hV
  obtain ⟨c0_0, c1_0, y0_0, y1_0, m0, rfl, rfl, rfl, hy0_0, hy1_0⟩ := open_agg2 Try.underlying23 (by kernel_rfl) cellsG_timesGauss (hval 0 23 v0 rfl rfl) h0
  obtain ⟨a0, e0_0, rfl, wa0⟩ := DataW.trod_int Try.underlying3 hy0_0
  obtain ⟨b0, e1_0, rfl, wb0⟩ := DataW.trod_int Try.underlying3 hy1_0
  simp at e0_0 e1_0
  subst e0_0 e1_0
  obtain ⟨c0_1, c1_1, y0_1, y1_1, m1, rfl, rfl, rfl, hy0_1, hy1_1⟩ := open_agg2 Try.underlying23 (by kernel_rfl) cellsG_timesGauss (hval 1 23 v1 rfl rfl) h1
  obtain ⟨a1, e0_1, rfl, wa1⟩ := DataW.trod_int Try.underlying3 hy0_1
  obtain ⟨b1, e1_1, rfl, wb1⟩ := DataW.trod_int Try.underlying3 hy1_1
  simp at e0_1 e1_1
  subst e0_1 e1_1
  refine (timesGauss_walk a0 b0 a1 b1 _ _ _ W (fun w => stimes a0 b0 a1 b1 w) (fun w => itimes a0 b0 a1 b1 w)).mono fun e W' ⟨he, hb⟩ => ?_
  subst he
  exact ⟨_, rfl, law_post (P := Try.prog) laidOut timesGauss_params rfl Try.underlying4 rfl rfl rfl rfl hW' hb⟩
theorem timesGauss_holds : Rows.FnExactTimesGaussSaid :=
  OpenClaim.holds_of_wide 5 Try.f5 rfl rfl rfl rfl rfl rfl rfl ⟨rfl, rfl, rfl, rfl, rfl⟩ rfl rfl rfl rfl rfl (by kernel_rfl) Try.func5 (by kernel_rfl)
    (of_decide_eq_true (by kernel_rfl)) (by unfold Func.isWrapper; first | (rw [if_pos (by decide +kernel)]; kernel_rfl) | (rw [if_neg (by decide +kernel)]; exact ⟨rfl, rfl⟩))
    (fun os started H enc _ => timesGauss_lifted os started H enc)
#print axioms timesGauss_holds
end Go.Proofs.Ytkkcdabcoafflaa
