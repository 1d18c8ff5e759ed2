/- FnExactDualOf returns true, whatever the arguments. -/
import Derived.Test.YtjoepdflbbcliacLaw
import Derived.Test.YtjoepdflbbcliacSDua
import Derived.Test.YtjoepdflbbcliacIDua
import Derived.Test.YtjoepdflbbcliacWDualOf
namespace Go.Proofs.Ytjoepdflbbcliac
set_option maxRecDepth 100000
open Go.ChangeShapes Go.WideShapes Go.ChangeAt Go.RowKit Go.Joins

theorem dualOf_params : ∀ t ∈ Try.f6.params.toList, Try.prog.readableRec t = true ∧ t < Try.prog.types.size := by
  rw [Try.params6]
  intro t ht
  simp at ht
  subst ht
  exact ⟨by kernel_rfl, of_decide_eq_true (by kernel_rfl)⟩
set_option maxRecDepth 100000 in
theorem dualOf_lifted (os : Os) (started : os.Started) (H : Type) (enc : TypeId × Value → H) :
    ReturnsInHanded {} Try.checked os 6 .any (Rows.fnExactDualOfSpec.pre6 enc Try.prog Try.f6 Rows.fnExactDualOfRow.domain false) (Rows.fnExactDualOfSpec.post enc Try.prog Try.f6 false true false false) := by
  refine returnsInHanded_of_change (C := Try.checked) own started (by kernel_rfl) Try.func6
    (ChangeSpec.witness6 (enc := enc) (C := Try.checked) false ⟨#[], #[.slice none 0 0], []⟩ 8 (by kernel_rfl) (by kernel_rfl) (by kernel_rfl) (by kernel_rfl)) ?_
  intro W base args ds gs before hval0 hW _ _
  have hval : ∀ (j : Nat) t v, Try.f6.params[j]? = some t → args[j]? = some v → Value.okWide Try.prog W .any base t v := hval0
  have hW' := hW
  obtain ⟨p, q, hA0, hV, rfl, _, _⟩ := hW
  have hA : DataW.TrodAll enc Try.prog W 0 (fun _ => true) true Try.f6.params.toList args.toList ds p := hA0
  rw [Try.params6] at hA hval
  obtain ⟨v0, d0, rfl, rfl, h0⟩ := trodAll_one hA
  obtain ⟨rfl, rfl⟩ := trodVars_none hV
  obtain ⟨a0_0, c0, s0, rfl, is0, wf0⟩ := open_IS Try.underlying31 Try.underlying3 cellsI (hval 0 31 v0 rfl rfl) h0
  refine (dualOf_law W a0_0 c0 s0 is0 (duA s0) (duA_len s0) (duOk s0) (fun v0 w h0 hl0 => sdualOf v0 s0 w h0 hl0) (fun v0 w h0 hl0 => idualOf v0 s0 w h0 hl0)).mono fun e W' ⟨he, hb⟩ => ?_
  subst he
  exact ⟨_, rfl, law_post (P := Try.prog) laidOut dualOf_params rfl Try.underlying4 rfl rfl rfl rfl hW' hb⟩
theorem dualOf_holds : Rows.FnExactDualOfSaid :=
  OpenClaim.holds_of_wide 6 Try.f6 rfl rfl rfl rfl rfl rfl rfl ⟨rfl, rfl, rfl, rfl, rfl⟩ rfl rfl rfl rfl rfl (by kernel_rfl) Try.func6 (by kernel_rfl)
    (of_decide_eq_true (by kernel_rfl)) (by unfold Func.isWrapper; first | (rw [if_pos (by decide +kernel)]; kernel_rfl) | (rw [if_neg (by decide +kernel)]; exact ⟨rfl, rfl⟩))
    (fun os started H enc _ => dualOf_lifted os started H enc)
#print axioms dualOf_holds
end Go.Proofs.Ytjoepdflbbcliac
