/- The program's sums of two correlations, and which pairs are Golay pairs. -/
import Derived.Test.YtoehehaeanepmaaIPr
import Derived.Test.YtoehehaeanepmaaCors
import Derived.Test.YtoehehaeanepmaaFlt
namespace Go.Proofs.Ytoehehaeanepmaa
set_option maxRecDepth 100000
open Go.RowKit

theorem neqZ (p q : List Int) (u : Int) (hp : p.length ≤ 32) (hq : q.length ≤ 32) (w : World) (t : TypeId) : (binOp .neq t (.complex .f32 (f32of (goT vx p q u)) (f32of (goT vy p q u))) (.complex .f32 0 0)).run Try.prog w = .ok (.bool (!(goZ p q u))) w :=
  run_neqz w t _ _ (goT_small vx vx_one p q u hp hq) (goT_small vy vy_one p q u hp hq)
end Go.Proofs.Ytoehehaeanepmaa
