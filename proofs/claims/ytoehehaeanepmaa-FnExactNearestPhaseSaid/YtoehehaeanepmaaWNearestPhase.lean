/- The walk of the law FnExactNearestPhase: out of the contracts of the two functions. -/
import Derived.Test.YtoehehaeanepmaaKit
namespace Go.Proofs.Ytoehehaeanepmaa
set_option maxRecDepth 100000
open Go.RowKit

set_option maxHeartbeats 1000000 in
theorem toGaussN_any (a b : Int) (w : World) : Calls Try.prog 28 #[.agg #[.int .i64 a, .int .i64 b]] w (Ret w (.agg #[.int .i64 a, .int .i64 b])) := by
  go_enter Try.func28, Try.ntmps28
  go_wp2
  go_returns
  exact ⟨rfl, by go_grown⟩
set_option maxRecDepth 100000 in
set_option maxHeartbeats 2000000 in
theorem nearestPhase_law (w : World) (a0 b0 : Int) (r0 : Int) (r1 : Bool)
    (hs : ∀ (w : World), Calls Try.prog 27 #[.agg #[.int .i64 a0, .int .i64 b0]] w (Ret w (.tuple #[.int .i64 r0, .bool r1])))
    (hi : ∀ (w : World), Calls Try.prog 29 #[.agg #[.int .i64 a0, .int .i64 b0]] w (Ret w (.tuple #[.int .i64 r0, .bool r1]))) :
    Calls Try.prog 9 #[.agg #[.int .i64 a0, .int .i64 b0]] w (Ret w (.bool true)) := by
  have HS := Lib.hid hs
  have HI := Lib.hid hi
  have HT := Lib.hid (toGaussN_any a0 b0)
  have c0 := cell_new0 w (.int .i64 a0) (.int .i64 b0) 34
  have c1 := cell_new1 w (.int .i64 a0) (.int .i64 b0) 34
  have hB := belowa (Below.refl w.heap.size w) (.cells #[.int .i64 a0, .int .i64 b0] 34)
  clear hs hi
  go_enter Try.func9, Try.ntmps9
  go_wp2_with fail
  refine (HT.out _).mono ?_
  rintro e w1 ⟨rfl, hb1⟩
  have hB1 := joins hB hb1
  have c0 := keepc hb1 c0
  have c1 := keepc hb1 c1
  go_wp2_with fail
  refine (HS.out _).mono ?_
  rintro e w2 ⟨rfl, hb2⟩
  have hB2 := joins hB1 hb2
  have c0 := keepc hb2 c0
  have c1 := keepc hb2 c1
  go_wp2_with fail
  refine (HT.out _).mono ?_
  rintro e w3 ⟨rfl, hb3⟩
  have hB3 := joins hB2 hb3
  go_wp2_with fail
  refine (HI.out _).mono ?_
  rintro e w4 ⟨rfl, hb4⟩
  have hB4 := joins hB3 hb4
  go_wp2_with fail
  go_returns
  exact ⟨rfl, hB4⟩
end Go.Proofs.Ytoehehaeanepmaa
