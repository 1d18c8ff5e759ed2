/- The model's phNorm, crEnergy, crPeak and crBarker. -/
import Derived.Test.YtbppbkoppbnodabSCr
import Derived.Test.YtbppbkoppbnodabCors
namespace Go.Proofs.Ytbppbkoppbnodab
set_option maxRecDepth 100000
open Go.RowKit

set_option maxHeartbeats 400000 in
theorem l1Most_any (a b : Int) (w : World) : Calls Try.prog 53 #[.int .i64 a, .int .i64 b] w (Pure w (.int .i64 (if b > a then b else a))) := by
  by_cases h : b > a
  · rw [if_pos h]
    have h2 : ¬ b < a := by omega
    have h3 : ¬ a > b := by omega
    go_enter Try.func53, Try.ntmps53
    go_wp2
    go_returns
    exact ⟨rfl, rfl⟩
  · rw [if_neg h]
    rcases (show a > b ∨ a = b by omega) with h2 | rfl
    · go_enter Try.func53, Try.ntmps53
      go_wp2
      go_returns
      exact ⟨rfl, rfl⟩
    · go_enter Try.func53, Try.ntmps53
      go_wp2
      go_returns
      exact ⟨rfl, rfl⟩

end Go.Proofs.Ytbppbkoppbnodab
