/- The walk of the law FnExactGaussText, out of the contracts of the two functions. -/
import Derived.Test.YtmckophclehkpaaDoorIGt
namespace Go.Proofs.YtmckophclehkpaaDoor
open Go.RowKit

set_option maxHeartbeats 1000000 in
theorem toGauss_any (a b : Int) (w : World) : Calls Tryd.prog 5 #[.agg #[.int .i64 a, .int .i64 b]] w (Ret w (.agg #[.int .i64 a, .int .i64 b])) := by
  go_enter Tryd.func5, Tryd.ntmps5
  go_wp2
  go_returns
  exact ⟨rfl, by go_grown⟩
set_option maxRecDepth 100000 in
set_option maxHeartbeats 2000000 in
theorem gaussText_law (x y : Int) (w : World) (htab : Lib.TabIs Tryd.prog w "internal/strconv.uint64pow10" .u64 Lib.pow10Tab) : Calls Tryd.prog 3 #[.agg #[.int .i64 x, .int .i64 y]] w (Ret w (.bool true)) := by
  have HS := Lib.hid (sgaussText x y)
  have HI := Lib.hid (fun w' (hb : Below w.heap.size w w') => igaussText x y w' (Joins.tab_stays pow10_at htab hb (Nat.le_refl _)))
  have HT := Lib.hid (toGauss_any x y)
  obtain ⟨s, hs⟩ : ∃ s, s = gtF x y := ⟨_, rfl⟩
  obtain ⟨b, hb⟩ : ∃ s, s = goodZ x y := ⟨_, rfl⟩
  rw [← hs, ← hb] at HS HI
  have c0 := cell_new0' w (.int .i64 x) (.int .i64 y) 23
  have c1 := cell_new1' w (.int .i64 x) (.int .i64 y) 23
  have hB := belowa (Below.refl w.heap.size w) (.cells #[.int .i64 x, .int .i64 y] 23)
  clear hs hb htab
  go_enter Tryd.func3, Tryd.ntmps3
  go_wp2_with fail
  refine (HT.out _).mono ?_
  rintro e w1 ⟨rfl, hb1⟩
  have hB1 := joins hB hb1
  have c0 := keepc hb1 c0
  have c1 := keepc hb1 c1
  go_wp2_with fail
  refine (HS.out _).mono ?_
  rintro e w2 ⟨rfl, hb2⟩
  have hB2 := joins hB1 hb2
  have c0 := keepc hb2 c0
  have c1 := keepc hb2 c1
  go_wp2_with fail
  refine (HT.out _).mono ?_
  rintro e w3 ⟨rfl, hb3⟩
  have hB3 := joins hB2 hb3
  go_wp2_with fail
  refine (HI.out _ hB3).mono ?_
  rintro e w4 ⟨rfl, hb4⟩
  have hB4 := joins hB3 hb4
  go_wp2_with fail
  go_returns
  exact ⟨rfl, hB4⟩
end Go.Proofs.YtmckophclehkpaaDoor
