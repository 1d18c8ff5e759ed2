/- FnExactGreatestSet returns true, whatever the arguments. -/
import Derived.Test.YtfjhocmnafdnfaaLawR
import Derived.Test.YtfjhocmnafdnfaaSGs
import Derived.Test.YtfjhocmnafdnfaaISpW
import Derived.Test.YtfjhocmnafdnfaaWGreatestSet
namespace Go.Proofs.Ytfjhocmnafdnfaa
set_option maxRecDepth 100000
open Go.ChangeShapes Go.WideShapes Go.ChangeAt Go.RowKit Go.Joins

theorem greatestSet_params : ∀ t ∈ Try.f3.params.toList, Try.prog.readableRec t = true ∧ t < Try.prog.types.size := by
  rw [Try.params3]
  intro t ht
  simp at ht
  subst ht
  exact ⟨by kernel_rfl, of_decide_eq_true (by kernel_rfl)⟩
set_option maxRecDepth 100000 in
theorem greatestSet_lifted (os : Os) (started : os.Started) (H : Type) (enc : TypeId × Value → H) :
    ReturnsInHanded {} Try.checked os 3 .any (Rows.fnExactGreatestSetSpec.pre6 enc Try.prog Try.f3 Rows.fnExactGreatestSetRow.domain false) (Rows.fnExactGreatestSetSpec.post enc Try.prog Try.f3 false true false false) := by
  refine returnsInHanded_of_change (C := Try.checked) own started (by kernel_rfl) Try.func3
    (ChangeSpec.witness6 (enc := enc) (C := Try.checked) false ⟨#[], #[.slice none 0 0], []⟩ 8 (by kernel_rfl) (by kernel_rfl) (by kernel_rfl) (by kernel_rfl)) ?_
  intro W base args ds gs before hval0 hW _ _
  have hval : ∀ (j : Nat) t v, Try.f3.params[j]? = some t → args[j]? = some v → Value.okWide Try.prog W .any base t v := hval0
  have hW' := hW
  obtain ⟨p, q, hA0, hV, rfl, _, _⟩ := hW
  have hA : DataW.TrodAll enc Try.prog W 0 (fun _ => true) true Try.f3.params.toList args.toList ds p := hA0
  rw [Try.params3] at hA hval
  obtain ⟨v0, d0, rfl, rfl, h0⟩ := trodAll_one hA
  obtain ⟨rfl, rfl⟩ := trodVars_none hV
  obtain ⟨a0_0, c0, s0, rfl, is0⟩ := open_IR Try.underlying22 Try.underlying24 Try.underlying3 cellsS cellsI (hval 0 22 v0 rfl rfl) h0
  refine (greatestSet_law W a0_0 c0 s0 is0 (gsF s0) (gsF_len _) (cdsOk s0) (fun v0 w h0 hl0 => sGreatestSet v0 s0 w h0 hl0) (fun v0 w h0 hl0 => iGreatestSet v0 s0 w h0 hl0)).mono fun e W' ⟨he, hb⟩ => ?_
  subst he
  exact ⟨_, rfl, law_post (P := Try.prog) laidOut greatestSet_params rfl Try.underlying4 rfl rfl rfl rfl hW' hb⟩
theorem greatestSet_holds : Rows.FnExactGreatestSetSaid :=
  OpenClaim.holds_of_wide 3 Try.f3 rfl rfl rfl rfl rfl rfl rfl ⟨rfl, rfl, rfl, rfl, rfl⟩ rfl rfl rfl rfl rfl (by kernel_rfl) Try.func3 (by kernel_rfl)
    (of_decide_eq_true (by kernel_rfl)) (by unfold Func.isWrapper; first | (rw [if_pos (by decide +kernel)]; kernel_rfl) | (rw [if_neg (by decide +kernel)]; exact ⟨rfl, rfl⟩))
    (fun os started H enc _ => greatestSet_lifted os started H enc)
#print axioms greatestSet_holds
end Go.Proofs.Ytfjhocmnafdnfaa
