/- The program's places. -/
import Derived.Test.YtapmehgdnofgnabPlM
import Derived.Test.YtapmehgdnofgnabPhs
namespace Go.Proofs.Ytapmehgdnofgnab
set_option maxRecDepth 100000
open Go.RowKit

set_option maxHeartbeats 1000000 in
theorem isPlace_any (x n : Int) (w : World) : Calls Try.prog 61 #[.int .i64 x, .int .i64 n] w (Pure w (.bool (decide (0 ≤ x ∧ x < n)))) := by
  by_cases h : 0 ≤ x
  · go_enter Try.func61, Try.ntmps61
    go_wp2_with fail
    go_returns
    exact ⟨ret_bool (by simp [h]), rfl⟩
  · go_enter Try.func61, Try.ntmps61
    go_wp2_with fail
    go_returns
    exact ⟨ret_bool (by simp; intro h2; omega), rfl⟩
end Go.Proofs.Ytapmehgdnofgnab
