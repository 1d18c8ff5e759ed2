/- IsSequence of the model. -/
import Derived.Test.YtfjhocmnafdnfaaKit
namespace Go.Proofs.Ytfjhocmnafdnfaa
set_option maxRecDepth 100000
open Go.RowKit
theorem sisSeq (v : Value) (l : List Int) (w : World) (hv : IS w v l) (hl : l.length ≤ 1048576) : Calls Try.prog 39 #[v] w (Ret w (.bool (isSeq l))) := by
  obtain ⟨a, cap, hs⟩ : ∃ a cap, v = .slice a l.length cap := by rcases hv with ⟨rfl, a, cap, rfl⟩ | ⟨_, b, off, cap, rfl, _⟩ <;> exact ⟨_, _, rfl⟩
  subst hs
  go_enter Try.func39, Try.ntmps39
  go_wp2_with (go_at_call 110; refine (phIs_any _ l _ hv hl).mono ?_; rintro e w' ⟨rfl, hb⟩)
  go_returns
  exact ⟨rfl, ‹_›⟩
end Go.Proofs.Ytfjhocmnafdnfaa
