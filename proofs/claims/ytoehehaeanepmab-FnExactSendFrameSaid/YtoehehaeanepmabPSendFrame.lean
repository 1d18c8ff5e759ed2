/- FnExactSendFrame returns true, whatever the arguments. -/
import Derived.Test.YtoehehaeanepmabLaw
import Derived.Test.YtoehehaeanepmabSFs
import Derived.Test.YtoehehaeanepmabIFs
import Derived.Test.YtoehehaeanepmabWSendFrame
namespace Go.Proofs.Ytoehehaeanepmab
set_option maxRecDepth 100000
open Go.ChangeShapes Go.WideShapes Go.ChangeAt Go.RowKit Go.Joins

theorem sendFrame_params : ∀ t ∈ Try.f6.params.toList, Try.prog.readableRec t = true ∧ t < Try.prog.types.size := by
  rw [Try.params6]
  intro t ht
  simp at ht
  rcases ht with rfl | rfl | rfl <;> exact ⟨by kernel_rfl, of_decide_eq_true (by kernel_rfl)⟩
set_option maxRecDepth 100000 in
theorem sendFrame_lifted (os : Os) (started : os.Started) (H : Type) (enc : TypeId × Value → H) :
    ReturnsInHanded {} Try.checked os 6 .any (Rows.fnExactSendFrameSpec.pre6 enc Try.prog Try.f6 Rows.fnExactSendFrameRow.domain false) (Rows.fnExactSendFrameSpec.post enc Try.prog Try.f6 false true false false) := by
  refine returnsInHanded_of_change (C := Try.checked) own started (by kernel_rfl) Try.func6
    (ChangeSpec.witness6 (enc := enc) (C := Try.checked) false ⟨#[], #[.slice none 0 0, .slice none 0 0, .int .i64 0], []⟩ 8 (by kernel_rfl) (by kernel_rfl) (by kernel_rfl) (by kernel_rfl)) ?_
  intro W base args ds gs before hval0 hW _ _
  have hval : ∀ (j : Nat) t v, Try.f6.params[j]? = some t → args[j]? = some v → Value.okWide Try.prog W .any base t v := hval0
  have hW' := hW
  obtain ⟨p, q, hA0, hV, rfl, _, _⟩ := hW
  have hA : DataW.TrodAll enc Try.prog W 0 (fun _ => true) true Try.f6.params.toList args.toList ds p := hA0
  rw [Try.params6] at hA hval
  obtain ⟨v0, v1, v2, d0, d1, d2, p0, p1, p2, rfl, rfl, rfl, h0, h1, h2⟩ := trodAll_three hA
  obtain ⟨rfl, rfl⟩ := trodVars_none hV
  obtain ⟨a0_0, c0, s0, rfl, is0, wf0⟩ := open_IS Try.underlying22 Try.underlying3 cellsI (hval 0 22 v0 rfl rfl) h0
  obtain ⟨a0_1, c1, s1, rfl, is1, wf1⟩ := open_IS Try.underlying22 Try.underlying3 cellsI (hval 1 22 v1 rfl rfl) h1
  obtain ⟨x2, rfl, rfl, rfl, wx2⟩ := open_int Try.underlying3 (hval 2 3 v2 rfl rfl) h2
  refine (sendFrame_law W a0_0 c0 s0 is0 a0_1 c1 s1 is1 x2 (sfF s0 s1 x2) (sfF_len s0 s1 x2) (sfOk s0 s1 x2) (fun v0 v1 w h0 h1 hl0 hl1 => sSendFrame v0 v1 s0 s1 x2 w h0 h1 hl0 hl1) (fun v0 v1 w h0 h1 hl0 hl1 => iSendFrame v0 v1 s0 s1 x2 w h0 h1 hl0 hl1)).mono fun e W' ⟨he, hb⟩ => ?_
  subst he
  exact ⟨_, rfl, law_post (P := Try.prog) laidOut sendFrame_params rfl Try.underlying4 rfl rfl rfl rfl hW' hb⟩
theorem sendFrame_holds : Rows.FnExactSendFrameSaid :=
  OpenClaim.holds_of_wide 6 Try.f6 rfl rfl rfl rfl rfl rfl rfl ⟨rfl, rfl, rfl, rfl, rfl⟩ rfl rfl rfl rfl rfl (by kernel_rfl) Try.func6 (by kernel_rfl)
    (of_decide_eq_true (by kernel_rfl)) (by unfold Func.isWrapper; first | (rw [if_pos (by decide +kernel)]; kernel_rfl) | (rw [if_neg (by decide +kernel)]; exact ⟨rfl, rfl⟩))
    (fun os started H enc _ => sendFrame_lifted os started H enc)
#print axioms sendFrame_holds
end Go.Proofs.Ytoehehaeanepmab
