/- The walk of the law FnExactCountClasses: out of the contracts of the two functions. -/
import Derived.Test.YtcagiecgbjnefabGsn
namespace Go.Proofs.Ytcagiecgbjnefab
set_option maxRecDepth 100000
open Go.RowKit

set_option maxRecDepth 100000 in
set_option maxHeartbeats 4000000 in
theorem countClasses_walk (w : World) (x0 : Int) (r0 : Int) (r1 : Bool)
    (hs : ∀ (w : World), Calls Try.prog 23 #[.int .i64 x0] w (Ret w (.tuple #[.int .i64 r0, .bool r1])))
    (hi : ∀ (w : World), Calls Try.prog 24 #[.int .i64 x0] w (Ret w (.tuple #[.int .i64 r0, .bool r1]))) :
    Calls Try.prog 6 #[.int .i64 x0] w (Ret w (.bool true)) := by
  have HS := Lib.hid hs
  have HI := Lib.hid hi
  clear hs hi
  have hB0 : Below w.heap.size w w := Below.refl _ _
  go_enter Try.func6, Try.ntmps6
  go_wp2_with fail
  refine (HS.out _ ).mono ?_
  rintro e w1 ⟨rfl, hb1⟩
  have hB1 := joins hB0 hb1
  go_wp2_with fail
  refine (HI.out _ ).mono ?_
  rintro e w2 ⟨rfl, hb2⟩
  have hB2 := joins hB1 hb2
  go_wp2_with fail
  go_returns
  exact ⟨rfl, hB2⟩

set_option maxRecDepth 100000 in
theorem countClasses_law (w : World) (x0 : Int) (r0 : Int) (r1 : Bool)
    (hs : ∀ (w : World), Calls Try.prog 23 #[.int .i64 x0] w (Ret w (.tuple #[.int .i64 r0, .bool r1])))
    (hi : ∀ (w : World), Calls Try.prog 24 #[.int .i64 x0] w (Ret w (.tuple #[.int .i64 r0, .bool r1]))) :
    Calls Try.prog 6 #[.int .i64 x0] w (Ret w (.bool true)) := by
  exact countClasses_walk w x0 r0 r1 (fun w => hs w) (fun w => hi w)
end Go.Proofs.Ytcagiecgbjnefab
