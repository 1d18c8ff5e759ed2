/- FnExactDecideOf returns true, whatever the arguments. -/
import Derived.Test.YtoehehaeanepmaaLawQ
import Derived.Test.YtoehehaeanepmaaSNs
import Derived.Test.YtoehehaeanepmaaINs
import Derived.Test.YtoehehaeanepmaaWDecideOf
namespace Go.Proofs.Ytoehehaeanepmaa
set_option maxRecDepth 100000
open Go.ChangeShapes Go.WideShapes Go.ChangeAt Go.RowKit Go.Joins

theorem decideOf_params : ∀ t ∈ Try.f10.params.toList, Try.prog.readableRec t = true ∧ t < Try.prog.types.size := by
  rw [Try.params10]
  intro t ht
  simp at ht
  subst ht
  exact ⟨by kernel_rfl, of_decide_eq_true (by kernel_rfl)⟩
set_option maxRecDepth 100000 in
theorem decideOf_lifted (os : Os) (started : os.Started) (H : Type) (enc : TypeId × Value → H) :
    ReturnsInHanded {} Try.checked os 10 .any (Rows.fnExactDecideOfSpec.pre6 enc Try.prog Try.f10 Rows.fnExactDecideOfRow.domain false) (Rows.fnExactDecideOfSpec.post enc Try.prog Try.f10 false true false false) := by
  refine returnsInHanded_of_change (C := Try.checked) own started (by kernel_rfl) Try.func10
    (ChangeSpec.witness6 (enc := enc) (C := Try.checked) false ⟨#[], #[.slice none 0 0], []⟩ 8 (by kernel_rfl) (by kernel_rfl) (by kernel_rfl) (by kernel_rfl)) ?_
  intro W base args ds gs before hval0 hW _ _
  have hval : ∀ (j : Nat) t v, Try.f10.params[j]? = some t → args[j]? = some v → Value.okWide Try.prog W .any base t v := hval0
  have hW' := hW
  obtain ⟨p, q, hA0, hV, rfl, _, _⟩ := hW
  have hA : DataW.TrodAll enc Try.prog W 0 (fun _ => true) true Try.f10.params.toList args.toList ds p := hA0
  rw [Try.params10] at hA hval
  obtain ⟨v0, d0, rfl, rfl, h0⟩ := trodAll_one hA
  obtain ⟨rfl, rfl⟩ := trodVars_none hV
  obtain ⟨a0_0, c0, s0, rfl, is0⟩ := open_IG Try.underlying39 Try.underlying34 cellsGl rfl rfl cellsQI cellsQI Try.underlying3 Try.underlying3 (hval 0 39 v0 rfl rfl) h0
  refine (decideOf_law W a0_0 c0 s0 is0 (deF s0) (deF_len s0) (deOk s0) (fun v0 w h0 hl0 => sDecideOf v0 s0 w h0 hl0) (fun v0 w h0 hl0 => iDecideOf v0 s0 w h0 hl0)).mono fun e W' ⟨he, hb⟩ => ?_
  subst he
  exact ⟨_, rfl, law_post (P := Try.prog) laidOut decideOf_params rfl Try.underlying4 rfl rfl rfl rfl hW' hb⟩
theorem decideOf_holds : Rows.FnExactDecideOfSaid :=
  OpenClaim.holds_of_wide 10 Try.f10 rfl rfl rfl rfl rfl rfl rfl ⟨rfl, rfl, rfl, rfl, rfl⟩ rfl rfl rfl rfl rfl (by kernel_rfl) Try.func10 (by kernel_rfl)
    (of_decide_eq_true (by kernel_rfl)) (by unfold Func.isWrapper; first | (rw [if_pos (by decide +kernel)]; kernel_rfl) | (rw [if_neg (by decide +kernel)]; exact ⟨rfl, rfl⟩))
    (fun os started H enc _ => decideOf_lifted os started H enc)
#print axioms decideOf_holds
end Go.Proofs.Ytoehehaeanepmaa
