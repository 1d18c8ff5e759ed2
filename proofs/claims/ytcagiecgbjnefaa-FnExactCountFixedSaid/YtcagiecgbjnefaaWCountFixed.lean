/- The walk of the law FnExactCountFixed: out of the contracts of the two functions. -/
import Derived.Test.YtcagiecgbjnefaaGsn
import Derived.Test.YtcagiecgbjnefaaClC
namespace Go.Proofs.Ytcagiecgbjnefaa
set_option maxRecDepth 100000
open Go.RowKit

set_option maxRecDepth 100000 in
set_option maxHeartbeats 4000000 in
theorem countFixed_walk (w : World) (x0 : Int) (a1 : Option Addr) (c1 : Nat) (l1 : List Int) (hl1 : l1.length ≤ 1048576) (hv1 : IS w (.slice a1 l1.length c1) l1) (r0 : Int) (r1 : Bool)
    (hs : ∀ (v1 : Value) (w : World), IS w v1 l1 → clCap v1 → Calls Try.prog 27 #[.int .i64 x0, v1] w (Ret w (.tuple #[.int .i64 r0, .bool r1])))
    (hi : ∀ (v1 : Value) (w : World), IS w v1 l1 → clCap v1 → Calls Try.prog 28 #[.int .i64 x0, v1] w (Ret w (.tuple #[.int .i64 r0, .bool r1]))) :
    Calls Try.prog 8 #[.int .i64 x0, .slice a1 l1.length c1] w (Ret w (.bool true)) := by
  have HS := Lib.hid hs
  have HI := Lib.hid hi
  clear hs hi
  have hB0 : Below w.heap.size w w := Below.refl _ _
  go_enter Try.func8, Try.ntmps8
  go_wp2_with fail
  refine (toIntS_any _ l1 _ hv1 hl1).mono ?_
  rintro e w1 ⟨y1, rfl, ho1, hb1⟩
  have hB1 := joins hB0 hb1
  have o1_y1 := OS.of ho1
  have lo_y1 : ∀ k, y1.ownBlock = some k → w.heap.size ≤ k := fun k hk => by have l_ := (ho1.lt k hk).1; (try simp only [World.size_alloc] at l_); omega
  have hi_y1 := o1_y1.hi
  go_wp2_with fail
  refine (HS.out _ _ (o1_y1).is (Own.clCap ho1)).mono ?_
  rintro e w2 ⟨rfl, hb2⟩
  have hB2 := joins hB1 hb2
  go_wp2_with fail
  refine (toIntS_any _ l1 _ (hv1.below hB2) hl1).mono ?_
  rintro e w3 ⟨y3, rfl, ho3, hb3⟩
  have hB3 := joins hB2 hb3
  have o3_y3 := OS.of ho3
  have lo_y3 : ∀ k, y3.ownBlock = some k → w2.heap.size ≤ k := fun k hk => by have l_ := (ho3.lt k hk).1; (try simp only [World.size_alloc] at l_); omega
  have hi_y3 := o3_y3.hi
  go_wp2_with fail
  refine (HI.out _ _ (o3_y3).is (Own.clCap ho3)).mono ?_
  rintro e w4 ⟨rfl, hb4⟩
  have hB4 := joins hB3 hb4
  have o4_y3 := (o3_y3).below hb4
  go_wp2_with fail
  refine (toIntS_any _ l1 _ (hv1.below hB4) hl1).mono ?_
  rintro e w5 ⟨y5, rfl, ho5, hb5⟩
  have hB5 := joins hB4 hb5
  have o5_y3 := (o4_y3).below hb5
  have o5_y5 := OS.of ho5
  have lo_y5 : ∀ k, y5.ownBlock = some k → w4.heap.size ≤ k := fun k hk => by have l_ := (ho5.lt k hk).1; (try simp only [World.size_alloc] at l_); omega
  have hi_y5 := o5_y5.hi
  go_wp2_with fail
  refine (eqIntS_same _ _ l1 _ (o5_y3).is (o5_y5).is).mono ?_
  rintro e w6 ⟨rfl, hb6⟩
  have hB6 := joins hB5 hb6
  go_wp2_with fail
  go_returns
  exact ⟨rfl, hB6⟩

set_option maxRecDepth 100000 in
theorem countFixed_law (w : World) (x0 : Int) (a1 : Option Addr) (c1 : Nat) (l1 : List Int) (hv1 : IS w (.slice a1 l1.length c1) l1) (r0 : Int) (r1 : Bool)
    (hs : ∀ (v1 : Value) (w : World), IS w v1 l1 → clCap v1 → l1.length ≤ 1048576 → Calls Try.prog 27 #[.int .i64 x0, v1] w (Ret w (.tuple #[.int .i64 r0, .bool r1])))
    (hi : ∀ (v1 : Value) (w : World), IS w v1 l1 → clCap v1 → l1.length ≤ 1048576 → Calls Try.prog 28 #[.int .i64 x0, v1] w (Ret w (.tuple #[.int .i64 r0, .bool r1]))) :
    Calls Try.prog 8 #[.int .i64 x0, .slice a1 l1.length c1] w (Ret w (.bool true)) := by
  by_cases hl1 : l1.length ≤ 1048576
  · skip
    exact countFixed_walk w x0 a1 c1 l1 hl1 hv1 r0 r1 (fun v1 w h1 hc1 => hs v1 w h1 hc1 hl1) (fun v1 w h1 hc1 => hi v1 w h1 hc1 hl1)
  · clear hs hi
    have hn1 : (1048576 : Int) < (l1.length : Int) := by omega
    go_enter Try.func8, Try.ntmps8
    go_wp2_with fail
    go_returns
    exact ⟨rfl, by go_grown⟩
end Go.Proofs.Ytcagiecgbjnefaa
