/- FnExactNearestPhase returns true, whatever the arguments. -/
import Derived.Test.YtoehehaeanepmaaLaw
import Derived.Test.YtoehehaeanepmaaSNs
import Derived.Test.YtoehehaeanepmaaINs
import Derived.Test.YtoehehaeanepmaaWNearestPhase
namespace Go.Proofs.Ytoehehaeanepmaa
set_option maxRecDepth 100000
open Go.ChangeShapes Go.WideShapes Go.ChangeAt Go.RowKit Go.Joins

theorem cellsG_nearestPhase : Try.prog.cellsOf 34 = 2 := by kernel_rfl
theorem nearestPhase_params : ∀ t ∈ Try.f9.params.toList, Try.prog.readableRec t = true ∧ t < Try.prog.types.size := by
  rw [Try.params9]
  intro t ht
  simp at ht
  subst ht
  exact ⟨by kernel_rfl, of_decide_eq_true (by kernel_rfl)⟩
set_option maxRecDepth 100000 in
theorem nearestPhase_lifted (os : Os) (started : os.Started) (H : Type) (enc : TypeId × Value → H) :
    ReturnsInHanded {} Try.checked os 9 .any (Rows.fnExactNearestPhaseSpec.pre6 enc Try.prog Try.f9 Rows.fnExactNearestPhaseRow.domain false) (Rows.fnExactNearestPhaseSpec.post enc Try.prog Try.f9 false true false false) := by
  refine returnsInHanded_of_change (C := Try.checked) own started (by kernel_rfl) Try.func9
    (ChangeSpec.witness6 (enc := enc) (C := Try.checked) false ⟨#[], #[.agg #[.int .i64 0, .int .i64 0]], []⟩ 8 (by kernel_rfl) (by kernel_rfl) (by kernel_rfl) (by kernel_rfl)) ?_
  intro W base args ds gs before hval0 hW _ _
  have hval : ∀ (j : Nat) t v, Try.f9.params[j]? = some t → args[j]? = some v → Value.okWide Try.prog W .any base t v := hval0
  have hW' := hW
  obtain ⟨p, q, hA0, hV, rfl, _, _⟩ := hW
  have hA : DataW.TrodAll enc Try.prog W 0 (fun _ => true) true Try.f9.params.toList args.toList ds p := hA0
  rw [Try.params9] at hA hval
  obtain ⟨v0, d0, rfl, rfl, h0⟩ := trodAll_one hA
  obtain ⟨rfl, rfl⟩ := trodVars_none hV
  obtain ⟨c0_0, c1_0, y0_0, y1_0, m0, rfl, rfl, rfl, hy0_0, hy1_0⟩ := open_agg2 Try.underlying34 (by kernel_rfl) cellsG_nearestPhase (hval 0 34 v0 rfl rfl) h0
  obtain ⟨a0, e0_0, rfl, wa0⟩ := DataW.trod_int Try.underlying3 hy0_0
  obtain ⟨b0, e1_0, rfl, wb0⟩ := DataW.trod_int Try.underlying3 hy1_0
  simp at e0_0 e1_0
  subst e0_0 e1_0
  refine (nearestPhase_law W a0 b0 (neV a0 b0) (neOk a0 b0) (fun w => sNearestPhase a0 b0 w) (fun w => iNearestPhase a0 b0 w)).mono fun e W' ⟨he, hb⟩ => ?_
  subst he
  exact ⟨_, rfl, law_post (P := Try.prog) laidOut nearestPhase_params rfl Try.underlying4 rfl rfl rfl rfl hW' hb⟩
theorem nearestPhase_holds : Rows.FnExactNearestPhaseSaid :=
  OpenClaim.holds_of_wide 9 Try.f9 rfl rfl rfl rfl rfl rfl rfl ⟨rfl, rfl, rfl, rfl, rfl⟩ rfl rfl rfl rfl rfl (by kernel_rfl) Try.func9 (by kernel_rfl)
    (of_decide_eq_true (by kernel_rfl)) (by unfold Func.isWrapper; first | (rw [if_pos (by decide +kernel)]; kernel_rfl) | (rw [if_neg (by decide +kernel)]; exact ⟨rfl, rfl⟩))
    (fun os started H enc _ => nearestPhase_lifted os started H enc)
#print axioms nearestPhase_holds
end Go.Proofs.Ytoehehaeanepmaa
