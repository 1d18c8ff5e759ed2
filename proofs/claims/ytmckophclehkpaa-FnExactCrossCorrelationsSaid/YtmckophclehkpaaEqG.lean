/- laws.eqGauss at one number. -/
import Derived.Test.YtmckophclehkpaaCell
namespace Go.Proofs.Ytmckophclehkpaa
open Go.RowKit

set_option maxHeartbeats 1000000 in
theorem eqGauss_same (a b : Int) (w : World) : Calls Try.prog 13 #[.agg #[.int .i64 a, .int .i64 b], .agg #[.int .i64 a, .int .i64 b]] w (Ret w (.bool true)) := by
  go_enter Try.func13, Try.ntmps13
  go_wp2
  go_returns
  exact ⟨rfl, by go_grown⟩
end Go.Proofs.Ytmckophclehkpaa
