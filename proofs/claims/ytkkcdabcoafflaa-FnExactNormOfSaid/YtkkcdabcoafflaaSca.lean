/- The laws of Gaussian numbers: walked as they stand, with all that they call. -/
import Derived.Test.YtkkcdabcoafflaaRows
import Derived.Test.YtkkcdabcoafflaaBase
namespace Go.Proofs.Ytkkcdabcoafflaa
open Go.RowKit

set_option maxHeartbeats 1000000 in
theorem isGauss_law (a b : Int) (w : World) : Calls Try.prog 3 #[.agg #[.int .i64 a, .int .i64 b]] w (Ret w (.bool true)) := by
  go_enter Try.func3, Try.ntmps3
  go_wp2
  all_goals (go_returns; exact ⟨rfl, by go_grown⟩)

set_option maxHeartbeats 1000000 in
theorem conjugateGauss_law (a b : Int) (w : World) : Calls Try.prog 6 #[.agg #[.int .i64 a, .int .i64 b]] w (Ret w (.bool true)) := by
  go_enter Try.func6, Try.ntmps6
  go_wp2
  all_goals (go_returns; exact ⟨rfl, by go_grown⟩)

set_option maxHeartbeats 1000000 in
theorem normOf_law (a b : Int) (w : World) : Calls Try.prog 7 #[.agg #[.int .i64 a, .int .i64 b]] w (Ret w (.bool true)) := by
  go_enter Try.func7, Try.ntmps7
  go_wp2
  all_goals (go_returns; exact ⟨rfl, by go_grown⟩)
end Go.Proofs.Ytkkcdabcoafflaa
