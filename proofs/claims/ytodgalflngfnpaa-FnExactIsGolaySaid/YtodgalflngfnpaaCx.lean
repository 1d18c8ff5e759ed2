/- Small whole numbers as float32, and the program's values of phases. -/
import Derived.Test.YtodgalflngfnpaaLawKit
import Derived.Test.YtodgalflngfnpaaFlo
namespace Go.Proofs.Ytodgalflngfnpaa
set_option maxRecDepth 100000
open Go.RowKit

theorem store_complex {P : Program} (w : World) (a : Addr) (k : FloatKind) (x y : Nat) (m : Mode) : (store a (.complex k x y) m).run P w = stored P w a (.complex k x y) m := run_store P w a _ m rfl

set_option maxHeartbeats 1000000 in
theorem valueOf_any (k : Int) (h1 : 0 ≤ k) (h2 : k ≤ 3) (w : World) : Calls Try.prog 97 #[.int .i64 k] w (Ret w (.complex .f32 (f32of (vx k)) (f32of (vy k)))) := by
  have hst := @store_complex Try.prog
  have hk : k = 0 ∨ k = 1 ∨ k = 2 ∨ k = 3 := by omega
  rcases hk with rfl | rfl | rfl | rfl
  all_goals
    clear h1 h2
    go_enter Try.func97, Try.ntmps97
    go_wp2
    go_returns
    exact ⟨rfl, by go_grown⟩

end Go.Proofs.Ytodgalflngfnpaa
