/- FnExactAreEquivalent returns true, whatever the arguments. -/
import Derived.Test.YtcagiecgbjnefabLaw
import Derived.Test.YtcagiecgbjnefabSClP
import Derived.Test.YtcagiecgbjnefabIClW
import Derived.Test.YtcagiecgbjnefabWAreEquivalent
namespace Go.Proofs.Ytcagiecgbjnefab
set_option maxRecDepth 100000
open Go.ChangeShapes Go.WideShapes Go.ChangeAt Go.RowKit Go.Joins

theorem areEquivalent_params : ∀ t ∈ Try.f5.params.toList, Try.prog.readableRec t = true ∧ t < Try.prog.types.size := by
  rw [Try.params5]
  intro t ht
  simp at ht
  subst ht
  exact ⟨by kernel_rfl, of_decide_eq_true (by kernel_rfl)⟩
set_option maxRecDepth 100000 in
theorem areEquivalent_lifted (os : Os) (started : os.Started) (H : Type) (enc : TypeId × Value → H) :
    ReturnsInHanded {} Try.checked os 5 .any (Rows.fnExactAreEquivalentSpec.pre6 enc Try.prog Try.f5 Rows.fnExactAreEquivalentRow.domain false) (Rows.fnExactAreEquivalentSpec.post enc Try.prog Try.f5 false true false false) := by
  refine returnsInHanded_of_change (C := Try.checked) own started (by kernel_rfl) Try.func5
    (ChangeSpec.witness6 (enc := enc) (C := Try.checked) false ⟨#[], #[.slice none 0 0, .slice none 0 0], []⟩ 8 (by kernel_rfl) (by kernel_rfl) (by kernel_rfl) (by kernel_rfl)) ?_
  intro W base args ds gs before hval0 hW _ _
  have hval : ∀ (j : Nat) t v, Try.f5.params[j]? = some t → args[j]? = some v → Value.okWide Try.prog W .any base t v := hval0
  have hW' := hW
  obtain ⟨p, q, hA0, hV, rfl, _, _⟩ := hW
  have hA : DataW.TrodAll enc Try.prog W 0 (fun _ => true) true Try.f5.params.toList args.toList ds p := hA0
  rw [Try.params5] at hA hval
  obtain ⟨v0, v1, d0, d1, p0, p1, rfl, rfl, rfl, h0, h1⟩ := trodAll_two hA
  obtain ⟨rfl, rfl⟩ := trodVars_none hV
  obtain ⟨a0_0, c0, s0, rfl, is0, wf0⟩ := open_IS Try.underlying22 Try.underlying3 cellsI (hval 0 22 v0 rfl rfl) h0
  obtain ⟨a0_1, c1, s1, rfl, is1, wf1⟩ := open_IS Try.underlying22 Try.underlying3 cellsI (hval 1 22 v1 rfl rfl) h1
  refine (areEquivalent_law W a0_0 c0 s0 is0 a0_1 c1 s1 is1 (eqF9 s0 s1) (bothR s0 s1) (fun v0 v1 w h0 h1 hl0 hl1 => sAreEquivalent v0 v1 s0 s1 w h0 h1 hl0 hl1) (fun v0 v1 w h0 h1 hl0 hl1 => iAreEquivalent v0 v1 s0 s1 w h0 h1 hl0 hl1)).mono fun e W' ⟨he, hb⟩ => ?_
  subst he
  exact ⟨_, rfl, law_post (P := Try.prog) laidOut areEquivalent_params rfl Try.underlying4 rfl rfl rfl rfl hW' hb⟩
theorem areEquivalent_holds : Rows.FnExactAreEquivalentSaid :=
  OpenClaim.holds_of_wide 5 Try.f5 rfl rfl rfl rfl rfl rfl rfl ⟨rfl, rfl, rfl, rfl, rfl⟩ rfl rfl rfl rfl rfl (by kernel_rfl) Try.func5 (by kernel_rfl)
    (of_decide_eq_true (by kernel_rfl)) (by unfold Func.isWrapper; first | (rw [if_pos (by decide +kernel)]; kernel_rfl) | (rw [if_neg (by decide +kernel)]; exact ⟨rfl, rfl⟩))
    (fun os started H enc _ => areEquivalent_lifted os started H enc)
#print axioms areEquivalent_holds
end Go.Proofs.Ytcagiecgbjnefab
