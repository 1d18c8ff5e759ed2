/- The model's phNorm, crEnergy, crPeak and crBarker. -/
import Derived.Test.YtcagiecgbjnefaaSCr
import Derived.Test.YtcagiecgbjnefaaCors
namespace Go.Proofs.Ytcagiecgbjnefaa
set_option maxRecDepth 100000
open Go.RowKit

set_option maxHeartbeats 400000 in
theorem phNorm_any (X Y : Int) (h1 : -32 ≤ X) (h2 : X ≤ 32) (h3 : -32 ≤ Y) (h4 : Y ≤ 32) (w : World) : Calls Try.prog 56 #[.agg #[.int .i64 X, .int .i64 Y]] w (Ret w (.int .i64 (norm X Y))) := by
  have a := sq_small X h1 h2
  have b := sq_small Y h3 h4
  obtain ⟨a1, a2⟩ := a
  obtain ⟨b1, b2⟩ := b
  unfold norm
  go_enter Try.func56, Try.ntmps56
  go_wp2
  go_returns
  exact ⟨rfl, by go_grown⟩
end Go.Proofs.Ytcagiecgbjnefaa
