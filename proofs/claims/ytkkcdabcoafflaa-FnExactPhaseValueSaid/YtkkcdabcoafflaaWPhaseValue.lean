/- The walk of the law FnExactPhaseValue: out of the contracts of the two functions. -/
import Derived.Test.YtkkcdabcoafflaaEqG
namespace Go.Proofs.Ytkkcdabcoafflaa
open Go.RowKit

set_option maxRecDepth 100000 in
set_option maxHeartbeats 4000000 in
theorem phaseValue_walk (w : World) (x0 : Int) (r0 : Int) (q0 : Int) (r1 : Bool)
    (hs : ∀ (w : World), Calls Try.prog 27 #[.int .i64 x0] w (Ret w (.tuple #[.agg #[.int .i64 r0, .int .i64 q0], .bool r1])))
    (hi : ∀ (w : World), Calls Try.prog 28 #[.int .i64 x0] w (Ret w (.tuple #[.agg #[.int .i64 r0, .int .i64 q0], .bool r1]))) :
    Calls Try.prog 8 #[.int .i64 x0] w (Ret w (.bool true)) := by
  have HS := Lib.hid hs
  have HI := Lib.hid hi
  clear hs hi
  have hB0 : Below w.heap.size w w := Below.refl _ _
  go_enter Try.func8, Try.ntmps8
  go_wp2_with fail
  refine (HS.out _ ).mono ?_
  rintro e w1 ⟨rfl, hb1⟩
  have hB1 := joins hB0 hb1
  go_wp2_with fail
  refine (HI.out _ ).mono ?_
  rintro e w2 ⟨rfl, hb2⟩
  have hB2 := joins (belowa hB1 _) hb2
  have kr1 := keepc hb2 (cell_new0 _ _ _ _)
  have kq1 := keepc hb2 (cell_new1 _ _ _ _)
  have kr1a := keepa (.cells #[.int .i64 r0, .int .i64 q0] 25) kr1
  have kq1a := keepa (.cells #[.int .i64 r0, .int .i64 q0] 25) kq1
  go_wp2_with fail
  refine (eqGauss_same r0 q0 _).mono ?_
  rintro e w3 ⟨rfl, hb3⟩
  have hB3 := joins (belowa hB2 _) hb3
  have kr2 := keepc hb3 (cell_new0 _ _ _ _)
  have kq2 := keepc hb3 (cell_new1 _ _ _ _)
  have kr1 := keepc hb3 (keepa _ kr1)
  have kq1 := keepc hb3 (keepa _ kq1)
  go_wp2_with fail
  go_returns
  exact ⟨rfl, hB3⟩

set_option maxRecDepth 100000 in
theorem phaseValue_law (w : World) (x0 : Int) (r0 : Int) (q0 : Int) (r1 : Bool)
    (hs : ∀ (w : World), Calls Try.prog 27 #[.int .i64 x0] w (Ret w (.tuple #[.agg #[.int .i64 r0, .int .i64 q0], .bool r1])))
    (hi : ∀ (w : World), Calls Try.prog 28 #[.int .i64 x0] w (Ret w (.tuple #[.agg #[.int .i64 r0, .int .i64 q0], .bool r1]))) :
    Calls Try.prog 8 #[.int .i64 x0] w (Ret w (.bool true)) := by
  exact phaseValue_walk w x0 r0 q0 r1 (fun w => hs w) (fun w => hi w)
end Go.Proofs.Ytkkcdabcoafflaa
