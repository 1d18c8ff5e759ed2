/- FnExactCountFixed returns true, whatever the arguments. -/
import Derived.Test.YtcagiecgbjnefaaLaw
import Derived.Test.YtcagiecgbjnefaaSClK
import Derived.Test.YtcagiecgbjnefaaIClS
import Derived.Test.YtcagiecgbjnefaaWCountFixed
namespace Go.Proofs.Ytcagiecgbjnefaa
set_option maxRecDepth 100000
open Go.ChangeShapes Go.WideShapes Go.ChangeAt Go.RowKit Go.Joins

theorem countFixed_params : ∀ t ∈ Try.f8.params.toList, Try.prog.readableRec t = true ∧ t < Try.prog.types.size := by
  rw [Try.params8]
  intro t ht
  simp at ht
  rcases ht with rfl | rfl <;> exact ⟨by kernel_rfl, of_decide_eq_true (by kernel_rfl)⟩
set_option maxRecDepth 100000 in
theorem countFixed_lifted (os : Os) (started : os.Started) (H : Type) (enc : TypeId × Value → H) :
    ReturnsInHanded {} Try.checked os 8 .any (Rows.fnExactCountFixedSpec.pre6 enc Try.prog Try.f8 Rows.fnExactCountFixedRow.domain false) (Rows.fnExactCountFixedSpec.post enc Try.prog Try.f8 false true false false) := by
  refine returnsInHanded_of_change (C := Try.checked) own started (by kernel_rfl) Try.func8
    (ChangeSpec.witness6 (enc := enc) (C := Try.checked) false ⟨#[], #[.int .i64 0, .slice none 0 0], []⟩ 8 (by kernel_rfl) (by kernel_rfl) (by kernel_rfl) (by kernel_rfl)) ?_
  intro W base args ds gs before hval0 hW _ _
  have hval : ∀ (j : Nat) t v, Try.f8.params[j]? = some t → args[j]? = some v → Value.okWide Try.prog W .any base t v := hval0
  have hW' := hW
  obtain ⟨p, q, hA0, hV, rfl, _, _⟩ := hW
  have hA : DataW.TrodAll enc Try.prog W 0 (fun _ => true) true Try.f8.params.toList args.toList ds p := hA0
  rw [Try.params8] at hA hval
  obtain ⟨v0, v1, d0, d1, p0, p1, rfl, rfl, rfl, h0, h1⟩ := trodAll_two hA
  obtain ⟨rfl, rfl⟩ := trodVars_none hV
  obtain ⟨x0, rfl, rfl, rfl, wx0⟩ := open_int Try.underlying3 (hval 0 3 v0 rfl rfl) h0
  obtain ⟨a0_1, c1, s1, rfl, is1, wf1⟩ := open_IS Try.underlying22 Try.underlying3 cellsI (hval 1 22 v1 rfl rfl) h1
  refine (countFixed_law W x0 a0_1 c1 s1 is1 (cfV9 x0 s1) (cfOk9 x0 s1) (fun v1 w h1 hc1 _ => sCountFixed x0 v1 s1 w h1 hc1) (fun v1 w h1 hc1 _ => iCountFixed x0 v1 s1 w h1 hc1)).mono fun e W' ⟨he, hb⟩ => ?_
  subst he
  exact ⟨_, rfl, law_post (P := Try.prog) laidOut countFixed_params rfl Try.underlying4 rfl rfl rfl rfl hW' hb⟩
theorem countFixed_holds : Rows.FnExactCountFixedSaid :=
  OpenClaim.holds_of_wide 8 Try.f8 rfl rfl rfl rfl rfl rfl rfl ⟨rfl, rfl, rfl, rfl, rfl⟩ rfl rfl rfl rfl rfl (by kernel_rfl) Try.func8 (by kernel_rfl)
    (of_decide_eq_true (by kernel_rfl)) (by unfold Func.isWrapper; first | (rw [if_pos (by decide +kernel)]; kernel_rfl) | (rw [if_neg (by decide +kernel)]; exact ⟨rfl, rfl⟩))
    (fun os started H enc _ => countFixed_lifted os started H enc)
#print axioms countFixed_holds
end Go.Proofs.Ytcagiecgbjnefaa
