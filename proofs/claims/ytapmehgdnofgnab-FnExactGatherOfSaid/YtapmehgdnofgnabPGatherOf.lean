/- FnExactGatherOf returns true, whatever the arguments. -/
import Derived.Test.YtapmehgdnofgnabLawR
import Derived.Test.YtapmehgdnofgnabLawQ
import Derived.Test.YtapmehgdnofgnabSSpJ
import Derived.Test.YtapmehgdnofgnabISpJ
import Derived.Test.YtapmehgdnofgnabWGatherOf
namespace Go.Proofs.Ytapmehgdnofgnab
set_option maxRecDepth 100000
open Go.ChangeShapes Go.WideShapes Go.ChangeAt Go.RowKit Go.Joins

theorem gatherOf_params : ∀ t ∈ Try.f4.params.toList, Try.prog.readableRec t = true ∧ t < Try.prog.types.size := by
  rw [Try.params4]
  intro t ht
  simp at ht
  rcases ht with rfl | rfl <;> exact ⟨by kernel_rfl, of_decide_eq_true (by kernel_rfl)⟩
set_option maxRecDepth 100000 in
theorem gatherOf_lifted (os : Os) (started : os.Started) (H : Type) (enc : TypeId × Value → H) :
    ReturnsInHanded {} Try.checked os 4 .any (Rows.fnExactGatherOfSpec.pre6 enc Try.prog Try.f4 Rows.fnExactGatherOfRow.domain false) (Rows.fnExactGatherOfSpec.post enc Try.prog Try.f4 false true false false) := by
  refine returnsInHanded_of_change (C := Try.checked) own started (by kernel_rfl) Try.func4
    (ChangeSpec.witness6 (enc := enc) (C := Try.checked) false ⟨#[], #[.slice none 0 0, .slice none 0 0], []⟩ 8 (by kernel_rfl) (by kernel_rfl) (by kernel_rfl) (by kernel_rfl)) ?_
  intro W base args ds gs before hval0 hW _ _
  have hval : ∀ (j : Nat) t v, Try.f4.params[j]? = some t → args[j]? = some v → Value.okWide Try.prog W .any base t v := hval0
  have hW' := hW
  obtain ⟨p, q, hA0, hV, rfl, _, _⟩ := hW
  have hA : DataW.TrodAll enc Try.prog W 0 (fun _ => true) true Try.f4.params.toList args.toList ds p := hA0
  rw [Try.params4] at hA hval
  obtain ⟨v0, v1, d0, d1, p0, p1, rfl, rfl, rfl, h0, h1⟩ := trodAll_two hA
  obtain ⟨rfl, rfl⟩ := trodVars_none hV
  obtain ⟨a0_0, c0, s0, rfl, is0⟩ := open_IR Try.underlying36 Try.underlying23 Try.underlying3 cellsS cellsI (hval 0 36 v0 rfl rfl) h0
  obtain ⟨a0_1, c1, s1, rfl, is1⟩ := open_IG Try.underlying22 Try.underlying44 cellsGl rfl rfl cellsQI cellsQI Try.underlying3 Try.underlying3 (hval 1 22 v1 rfl rfl) h1
  refine (gatherOf_law W a0_0 c0 s0 is0 a0_1 c1 s1 is1 (gaF s0 s1) (gaF_len s0 s1) (gaB s0 s1) (fun v0 v1 w h0 hcp h1 hl0 hl1 => sGatherOf v0 v1 s0 s1 w h0 hcp h1 hl0) (fun v0 v1 w h0 h1 hl0 hl1 => iGatherOf v0 s0 v1 s1 w h0 h1 hl0 (by omega))).mono fun e W' ⟨he, hb⟩ => ?_
  subst he
  exact ⟨_, rfl, law_post (P := Try.prog) laidOut gatherOf_params rfl Try.underlying4 rfl rfl rfl rfl hW' hb⟩
theorem gatherOf_holds : Rows.FnExactGatherOfSaid :=
  OpenClaim.holds_of_wide 4 Try.f4 rfl rfl rfl rfl rfl rfl rfl ⟨rfl, rfl, rfl, rfl, rfl⟩ rfl rfl rfl rfl rfl (by kernel_rfl) Try.func4 (by kernel_rfl)
    (of_decide_eq_true (by kernel_rfl)) (by unfold Func.isWrapper; first | (rw [if_pos (by decide +kernel)]; kernel_rfl) | (rw [if_neg (by decide +kernel)]; exact ⟨rfl, rfl⟩))
    (fun os started H enc _ => gatherOf_lifted os started H enc)
#print axioms gatherOf_holds
end Go.Proofs.Ytapmehgdnofgnab
