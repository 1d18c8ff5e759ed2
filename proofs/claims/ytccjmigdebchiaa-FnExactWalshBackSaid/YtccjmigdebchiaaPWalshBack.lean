/- FnExactWalshBack returns true, whatever the arguments. -/
import Derived.Test.YtccjmigdebchiaaLawQ
import Derived.Test.YtccjmigdebchiaaSBw
import Derived.Test.YtccjmigdebchiaaIBk
import Derived.Test.YtccjmigdebchiaaWWalshBack
namespace Go.Proofs.Ytccjmigdebchiaa
set_option maxRecDepth 100000
open Go.ChangeShapes Go.WideShapes Go.ChangeAt Go.RowKit Go.Joins

theorem walshBack_params : ∀ t ∈ Try.f5.params.toList, Try.prog.readableRec t = true ∧ t < Try.prog.types.size := by
  rw [Try.params5]
  intro t ht
  simp at ht
  subst ht
  exact ⟨by kernel_rfl, of_decide_eq_true (by kernel_rfl)⟩
set_option maxRecDepth 100000 in
theorem walshBack_lifted (os : Os) (started : os.Started) (H : Type) (enc : TypeId × Value → H) :
    ReturnsInHanded {} Try.checked os 5 .any (Rows.fnExactWalshBackSpec.pre6 enc Try.prog Try.f5 Rows.fnExactWalshBackRow.domain false) (Rows.fnExactWalshBackSpec.post enc Try.prog Try.f5 false true false false) := by
  refine returnsInHanded_of_change (C := Try.checked) own started (by kernel_rfl) Try.func5
    (ChangeSpec.witness6 (enc := enc) (C := Try.checked) false ⟨#[], #[.slice none 0 0], []⟩ 8 (by kernel_rfl) (by kernel_rfl) (by kernel_rfl) (by kernel_rfl)) ?_
  intro W base args ds gs before hval0 hW _ _
  have hval : ∀ (j : Nat) t v, Try.f5.params[j]? = some t → args[j]? = some v → Value.okWide Try.prog W .any base t v := hval0
  have hW' := hW
  obtain ⟨p, q, hA0, hV, rfl, _, _⟩ := hW
  have hA : DataW.TrodAll enc Try.prog W 0 (fun _ => true) true Try.f5.params.toList args.toList ds p := hA0
  rw [Try.params5] at hA hval
  obtain ⟨v0, d0, rfl, rfl, h0⟩ := trodAll_one hA
  obtain ⟨rfl, rfl⟩ := trodVars_none hV
  obtain ⟨a0_0, c0, s0, rfl, is0⟩ := open_IG Try.underlying32 Try.underlying64 cellsGl rfl rfl cellsQI cellsQI Try.underlying3 Try.underlying3 (hval 0 32 v0 rfl rfl) h0
  refine (walshBack_law W a0_0 c0 s0 is0 (wbA s0) (wbA_len s0) (wbOk s0) (fun v0 w h0 hl0 => (fun v l w h _ => swalshBack v l w h) v0 s0 w h0 hl0) (fun v0 w h0 hl0 => (fun v l w h _ => iwalshBack v l w h) v0 s0 w h0 hl0)).mono fun e W' ⟨he, hb⟩ => ?_
  subst he
  exact ⟨_, rfl, law_post (P := Try.prog) laidOut walshBack_params rfl Try.underlying4 rfl rfl rfl rfl hW' hb⟩
theorem walshBack_holds : Rows.FnExactWalshBackSaid :=
  OpenClaim.holds_of_wide 5 Try.f5 rfl rfl rfl rfl rfl rfl rfl ⟨rfl, rfl, rfl, rfl, rfl⟩ rfl rfl rfl rfl rfl (by kernel_rfl) Try.func5 (by kernel_rfl)
    (of_decide_eq_true (by kernel_rfl)) (by unfold Func.isWrapper; first | (rw [if_pos (by decide +kernel)]; kernel_rfl) | (rw [if_neg (by decide +kernel)]; exact ⟨rfl, rfl⟩))
    (fun os started H enc _ => walshBack_lifted os started H enc)
#print axioms walshBack_holds
end Go.Proofs.Ytccjmigdebchiaa
