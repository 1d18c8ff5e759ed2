/- laws.eqRatio at one ratio. -/
import Derived.Test.YtmckophclehkpabCell
namespace Go.Proofs.Ytmckophclehkpab
open Go.RowKit

set_option maxHeartbeats 1000000 in
theorem eqRatio_same (a b : Int) (w : World) : Calls Try.prog 16 #[.agg #[.int .i64 a, .int .i64 b], .agg #[.int .i64 a, .int .i64 b]] w (Ret w (.bool true)) := by
  go_enter Try.func16, Try.ntmps16
  go_wp2
  go_returns
  exact ⟨rfl, by go_grown⟩
end Go.Proofs.Ytmckophclehkpab
