/- FnExactTurnPoints returns true, whatever the arguments. -/
import Derived.Test.YtoehehaeanepmabLawQ
import Derived.Test.YtoehehaeanepmabSMd
import Derived.Test.YtoehehaeanepmabITp
import Derived.Test.YtoehehaeanepmabWTurnPoints
namespace Go.Proofs.Ytoehehaeanepmab
set_option maxRecDepth 100000
open Go.ChangeShapes Go.WideShapes Go.ChangeAt Go.RowKit Go.Joins

theorem turnPoints_params : ∀ t ∈ Try.f4.params.toList, Try.prog.readableRec t = true ∧ t < Try.prog.types.size := by
  rw [Try.params4]
  intro t ht
  simp at ht
  rcases ht with rfl | rfl <;> exact ⟨by kernel_rfl, of_decide_eq_true (by kernel_rfl)⟩
set_option maxRecDepth 100000 in
theorem turnPoints_lifted (os : Os) (started : os.Started) (H : Type) (enc : TypeId × Value → H) :
    ReturnsInHanded {} Try.checked os 4 .any (Rows.fnExactTurnPointsSpec.pre6 enc Try.prog Try.f4 Rows.fnExactTurnPointsRow.domain false) (Rows.fnExactTurnPointsSpec.post enc Try.prog Try.f4 false true false false) := by
  refine returnsInHanded_of_change (C := Try.checked) own started (by kernel_rfl) Try.func4
    (ChangeSpec.witness6 (enc := enc) (C := Try.checked) false ⟨#[], #[.slice none 0 0, .int .i64 0], []⟩ 8 (by kernel_rfl) (by kernel_rfl) (by kernel_rfl) (by kernel_rfl)) ?_
  intro W base args ds gs before hval0 hW _ _
  have hval : ∀ (j : Nat) t v, Try.f4.params[j]? = some t → args[j]? = some v → Value.okWide Try.prog W .any base t v := hval0
  have hW' := hW
  obtain ⟨p, q, hA0, hV, rfl, _, _⟩ := hW
  have hA : DataW.TrodAll enc Try.prog W 0 (fun _ => true) true Try.f4.params.toList args.toList ds p := hA0
  rw [Try.params4] at hA hval
  obtain ⟨v0, v1, d0, d1, p0, p1, rfl, rfl, rfl, h0, h1⟩ := trodAll_two hA
  obtain ⟨rfl, rfl⟩ := trodVars_none hV
  obtain ⟨a0_0, c0, s0, rfl, is0⟩ := open_IG Try.underlying32 Try.underlying55 cellsGl rfl rfl cellsQI cellsQI Try.underlying3 Try.underlying3 (hval 0 32 v0 rfl rfl) h0
  obtain ⟨x1, rfl, rfl, rfl, wx1⟩ := open_int Try.underlying3 (hval 1 3 v1 rfl rfl) h1
  refine (turnPoints_law W a0_0 c0 s0 is0 x1 (tpF s0 x1) (tpF_len s0 x1) (tpOk s0 x1) (fun v0 w h0 hl0 => sTurnPoints v0 s0 x1 w h0 hl0) (fun v0 w h0 hl0 => iTurnPoints v0 s0 x1 w h0 hl0)).mono fun e W' ⟨he, hb⟩ => ?_
  subst he
  exact ⟨_, rfl, law_post (P := Try.prog) laidOut turnPoints_params rfl Try.underlying4 rfl rfl rfl rfl hW' hb⟩
theorem turnPoints_holds : Rows.FnExactTurnPointsSaid :=
  OpenClaim.holds_of_wide 4 Try.f4 rfl rfl rfl rfl rfl rfl rfl ⟨rfl, rfl, rfl, rfl, rfl⟩ rfl rfl rfl rfl rfl (by kernel_rfl) Try.func4 (by kernel_rfl)
    (of_decide_eq_true (by kernel_rfl)) (by unfold Func.isWrapper; first | (rw [if_pos (by decide +kernel)]; kernel_rfl) | (rw [if_neg (by decide +kernel)]; exact ⟨rfl, rfl⟩))
    (fun os started H enc _ => turnPoints_lifted os started H enc)
#print axioms turnPoints_holds
end Go.Proofs.Ytoehehaeanepmab
