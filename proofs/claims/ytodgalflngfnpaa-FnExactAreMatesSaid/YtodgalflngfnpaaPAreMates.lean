/- FnExactAreMates returns true, whatever the arguments. -/
import Derived.Test.YtodgalflngfnpaaLaw
import Derived.Test.YtodgalflngfnpaaSGoF
import Derived.Test.YtodgalflngfnpaaIMates
import Derived.Test.YtodgalflngfnpaaWAreMates
namespace Go.Proofs.Ytodgalflngfnpaa
set_option maxRecDepth 100000
open Go.ChangeShapes Go.WideShapes Go.ChangeAt Go.RowKit Go.Joins

theorem areMates_params : ∀ t ∈ Try.f10.params.toList, Try.prog.readableRec t = true ∧ t < Try.prog.types.size := by
  rw [Try.params10]
  intro t ht
  simp at ht
  subst ht
  exact ⟨by kernel_rfl, of_decide_eq_true (by kernel_rfl)⟩
set_option maxRecDepth 100000 in
theorem areMates_lifted (os : Os) (started : os.Started) (H : Type) (enc : TypeId × Value → H) :
    ReturnsInHanded {} Try.checked os 10 .any (Rows.fnExactAreMatesSpec.pre6 enc Try.prog Try.f10 Rows.fnExactAreMatesRow.domain false) (Rows.fnExactAreMatesSpec.post enc Try.prog Try.f10 false true false false) := by
  refine returnsInHanded_of_change (C := Try.checked) own started (by kernel_rfl) Try.func10
    (ChangeSpec.witness6 (enc := enc) (C := Try.checked) false ⟨#[], #[.slice none 0 0, .slice none 0 0, .slice none 0 0, .slice none 0 0], []⟩ 8 (by kernel_rfl) (by kernel_rfl) (by kernel_rfl) (by kernel_rfl)) ?_
  intro W base args ds gs before hval0 hW _ _
  have hval : ∀ (j : Nat) t v, Try.f10.params[j]? = some t → args[j]? = some v → Value.okWide Try.prog W .any base t v := hval0
  have hW' := hW
  obtain ⟨p, q, hA0, hV, rfl, _, _⟩ := hW
  have hA : DataW.TrodAll enc Try.prog W 0 (fun _ => true) true Try.f10.params.toList args.toList ds p := hA0
  rw [Try.params10] at hA hval
  obtain ⟨v0, v1, v2, v3, d0, d1, d2, d3, p0, p1, p2, p3, rfl, rfl, rfl, h0, h1, h2, h3⟩ := trodAll_four hA
  obtain ⟨rfl, rfl⟩ := trodVars_none hV
  obtain ⟨a0_0, c0, s0, rfl, is0, wf0⟩ := open_IS Try.underlying22 Try.underlying3 cellsI (hval 0 22 v0 rfl rfl) h0
  obtain ⟨a0_1, c1, s1, rfl, is1, wf1⟩ := open_IS Try.underlying22 Try.underlying3 cellsI (hval 1 22 v1 rfl rfl) h1
  obtain ⟨a0_2, c2, s2, rfl, is2, wf2⟩ := open_IS Try.underlying22 Try.underlying3 cellsI (hval 2 22 v2 rfl rfl) h2
  obtain ⟨a0_3, c3, s3, rfl, is3, wf3⟩ := open_IS Try.underlying22 Try.underlying3 cellsI (hval 3 22 v3 rfl rfl) h3
  refine (areMates_law W a0_0 c0 s0 is0 a0_1 c1 s1 is1 a0_2 c2 s2 is2 a0_3 c3 s3 is3 (foOk s0 s1 s2 s3 && maB s0 s1 s2 s3) (foOk s0 s1 s2 s3) (fun v0 v1 v2 v3 w h0 h1 h2 h3 hl0 hl1 hl2 hl3 => sareMates v0 v1 v2 v3 s0 s1 s2 s3 w h0 h1 h2 h3 hl0 hl1 hl2 hl3) (fun v0 v1 v2 v3 w h0 h1 h2 h3 hl0 hl1 hl2 hl3 => iareMates v0 v1 v2 v3 s0 s1 s2 s3 w h0 h1 h2 h3 hl0 hl1 hl2 hl3)).mono fun e W' ⟨he, hb⟩ => ?_
  subst he
  exact ⟨_, rfl, law_post (P := Try.prog) laidOut areMates_params rfl Try.underlying4 rfl rfl rfl rfl hW' hb⟩
theorem areMates_holds : Rows.FnExactAreMatesSaid :=
  OpenClaim.holds_of_wide 10 Try.f10 rfl rfl rfl rfl rfl rfl rfl ⟨rfl, rfl, rfl, rfl, rfl⟩ rfl rfl rfl rfl rfl (by kernel_rfl) Try.func10 (by kernel_rfl)
    (of_decide_eq_true (by kernel_rfl)) (by unfold Func.isWrapper; first | (rw [if_pos (by decide +kernel)]; kernel_rfl) | (rw [if_neg (by decide +kernel)]; exact ⟨rfl, rfl⟩))
    (fun os started H enc _ => areMates_lifted os started H enc)
#print axioms areMates_holds
end Go.Proofs.Ytodgalflngfnpaa
