/- What TransformOf, TransformBack and the others answer, plainly. -/
import Derived.Test.YtoehehaeanepmaaDrM
namespace Go.Proofs.Ytoehehaeanepmaa

set_option maxRecDepth 100000
def toOk (l : List (Int × Int)) : Bool := tfOk l && goodL (drL 1 l)
def toA (l : List (Int × Int)) : List (Int × Int) := if toOk l then drL 1 l else []
theorem drL_len (sg : Int) (l : List (Int × Int)) : (drL sg l).length = l.length := genG_length _ _ _
theorem toA_len (l : List (Int × Int)) : (toA l).length ≤ 1048576 := by
  unfold toA
  cases h : toOk l with
  | false => simp
  | true =>
    unfold toOk at h
    have := tfOk_len (Bool.and_eq_true_iff.1 h).1
    rw [if_pos rfl, drL_len]
    omega
end Go.Proofs.Ytoehehaeanepmaa
