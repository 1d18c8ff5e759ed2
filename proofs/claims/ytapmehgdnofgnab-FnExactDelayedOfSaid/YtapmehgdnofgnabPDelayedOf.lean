/- FnExactDelayedOf returns true, whatever the arguments. -/
import Derived.Test.YtapmehgdnofgnabLaw
import Derived.Test.YtapmehgdnofgnabSSpY
import Derived.Test.YtapmehgdnofgnabISpY
import Derived.Test.YtapmehgdnofgnabWDelayedOf
namespace Go.Proofs.Ytapmehgdnofgnab
set_option maxRecDepth 100000
open Go.ChangeShapes Go.WideShapes Go.ChangeAt Go.RowKit Go.Joins

theorem cellsG_delayedOf : Try.prog.cellsOf 44 = 2 := by kernel_rfl
theorem delayedOf_params : ∀ t ∈ Try.f5.params.toList, Try.prog.readableRec t = true ∧ t < Try.prog.types.size := by
  rw [Try.params5]
  intro t ht
  simp at ht
  rcases ht with rfl | rfl | rfl | rfl <;> exact ⟨by kernel_rfl, of_decide_eq_true (by kernel_rfl)⟩
set_option maxRecDepth 100000 in
theorem delayedOf_lifted (os : Os) (started : os.Started) (H : Type) (enc : TypeId × Value → H) :
    ReturnsInHanded {} Try.checked os 5 .any (Rows.fnExactDelayedOfSpec.pre6 enc Try.prog Try.f5 Rows.fnExactDelayedOfRow.domain false) (Rows.fnExactDelayedOfSpec.post enc Try.prog Try.f5 false true false false) := by
  refine returnsInHanded_of_change (C := Try.checked) own started (by kernel_rfl) Try.func5
    (ChangeSpec.witness6 (enc := enc) (C := Try.checked) false ⟨#[], #[.slice none 0 0, .agg #[.int .i64 0, .int .i64 0], .int .i64 0, .int .i64 0], []⟩ 8 (by kernel_rfl) (by kernel_rfl) (by kernel_rfl) (by kernel_rfl)) ?_
  intro W base args ds gs before hval0 hW _ _
  have hval : ∀ (j : Nat) t v, Try.f5.params[j]? = some t → args[j]? = some v → Value.okWide Try.prog W .any base t v := hval0
  have hW' := hW
  obtain ⟨p, q, hA0, hV, rfl, _, _⟩ := hW
  have hA : DataW.TrodAll enc Try.prog W 0 (fun _ => true) true Try.f5.params.toList args.toList ds p := hA0
  rw [Try.params5] at hA hval
  obtain ⟨v0, v1, v2, v3, d0, d1, d2, d3, p0, p1, p2, p3, rfl, rfl, rfl, h0, h1, h2, h3⟩ := trodAll_four hA
  obtain ⟨rfl, rfl⟩ := trodVars_none hV
  obtain ⟨a0_0, c0, s0, rfl, is0, wf0⟩ := open_IS Try.underlying23 Try.underlying3 cellsI (hval 0 23 v0 rfl rfl) h0
  obtain ⟨c0_1, c1_1, y0_1, y1_1, m1, rfl, rfl, rfl, hy0_1, hy1_1⟩ := open_agg2 Try.underlying44 (by kernel_rfl) cellsG_delayedOf (hval 1 44 v1 rfl rfl) h1
  obtain ⟨a1, e0_1, rfl, wa1⟩ := DataW.trod_int Try.underlying3 hy0_1
  obtain ⟨b1, e1_1, rfl, wb1⟩ := DataW.trod_int Try.underlying3 hy1_1
  simp at e0_1 e1_1
  subst e0_1 e1_1
  obtain ⟨x2, rfl, rfl, rfl, wx2⟩ := open_int Try.underlying3 (hval 2 3 v2 rfl rfl) h2
  obtain ⟨x3, rfl, rfl, rfl, wx3⟩ := open_int Try.underlying3 (hval 3 3 v3 rfl rfl) h3
  refine (delayedOf_law W a0_0 c0 s0 is0 a1 b1 x2 x3 (dyF s0 a1 b1 x2 x3) (dyF_length s0 a1 b1 x2 x3) (dyB s0 a1 b1 x2 x3) (fun v0 w h0 hl => sDelayedOf v0 s0 a1 b1 x2 x3 w h0 hl) (fun v0 w h0 hl => iDelayedOf v0 s0 a1 b1 x2 x3 w h0 hl)).mono fun e W' ⟨he, hb⟩ => ?_
  subst he
  exact ⟨_, rfl, law_post (P := Try.prog) laidOut delayedOf_params rfl Try.underlying4 rfl rfl rfl rfl hW' hb⟩
theorem delayedOf_holds : Rows.FnExactDelayedOfSaid :=
  OpenClaim.holds_of_wide 5 Try.f5 rfl rfl rfl rfl rfl rfl rfl ⟨rfl, rfl, rfl, rfl, rfl⟩ rfl rfl rfl rfl rfl (by kernel_rfl) Try.func5 (by kernel_rfl)
    (of_decide_eq_true (by kernel_rfl)) (by unfold Func.isWrapper; first | (rw [if_pos (by decide +kernel)]; kernel_rfl) | (rw [if_neg (by decide +kernel)]; exact ⟨rfl, rfl⟩))
    (fun os started H enc _ => delayedOf_lifted os started H enc)
#print axioms delayedOf_holds
end Go.Proofs.Ytapmehgdnofgnab
