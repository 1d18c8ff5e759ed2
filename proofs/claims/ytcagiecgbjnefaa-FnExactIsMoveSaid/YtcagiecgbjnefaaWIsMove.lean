/- The walk of the law FnExactIsMove: out of the contracts of the two functions. -/
import Derived.Test.YtcagiecgbjnefaaGsn
import Derived.Test.YtcagiecgbjnefaaClC
namespace Go.Proofs.Ytcagiecgbjnefaa
set_option maxRecDepth 100000
open Go.RowKit

set_option maxRecDepth 100000 in
set_option maxHeartbeats 4000000 in
theorem isMove_walk (w : World) (a0 : Option Addr) (c0 : Nat) (l0 : List Int) (hl0 : l0.length ≤ 1048576) (hv0 : IS w (.slice a0 l0.length c0) l0) (r0 : Bool)
    (hs : ∀ (v0 : Value) (w : World), IS w v0 l0 → clCap v0 → Calls Try.prog 10 #[v0] w (Ret w (.bool r0)))
    (hi : ∀ (v0 : Value) (w : World), IS w v0 l0 → clCap v0 → Calls Try.prog 12 #[v0] w (Ret w (.bool r0))) :
    Calls Try.prog 3 #[.slice a0 l0.length c0] w (Ret w (.bool true)) := by
  have HS := Lib.hid hs
  have HI := Lib.hid hi
  clear hs hi
  have hB0 : Below w.heap.size w w := Below.refl _ _
  go_enter Try.func3, Try.ntmps3
  go_wp2_with fail
  refine (toIntS_any _ l0 _ hv0 hl0).mono ?_
  rintro e w1 ⟨y1, rfl, ho1, hb1⟩
  have hB1 := joins hB0 hb1
  have o1_y1 := OS.of ho1
  have lo_y1 : ∀ k, y1.ownBlock = some k → w.heap.size ≤ k := fun k hk => by have l_ := (ho1.lt k hk).1; (try simp only [World.size_alloc] at l_); omega
  have hi_y1 := o1_y1.hi
  go_wp2_with fail
  refine (HS.out _ _ (o1_y1).is (Own.clCap ho1)).mono ?_
  rintro e w2 ⟨rfl, hb2⟩
  have hB2 := joins hB1 hb2
  go_wp2_with fail
  refine (toIntS_any _ l0 _ (hv0.below hB2) hl0).mono ?_
  rintro e w3 ⟨y3, rfl, ho3, hb3⟩
  have hB3 := joins hB2 hb3
  have o3_y3 := OS.of ho3
  have lo_y3 : ∀ k, y3.ownBlock = some k → w2.heap.size ≤ k := fun k hk => by have l_ := (ho3.lt k hk).1; (try simp only [World.size_alloc] at l_); omega
  have hi_y3 := o3_y3.hi
  go_wp2_with fail
  refine (HI.out _ _ (o3_y3).is (Own.clCap ho3)).mono ?_
  rintro e w4 ⟨rfl, hb4⟩
  have hB4 := joins hB3 hb4
  have o4_y3 := (o3_y3).below hb4
  go_wp2_with fail
  refine (toIntS_any _ l0 _ (hv0.below hB4) hl0).mono ?_
  rintro e w5 ⟨y5, rfl, ho5, hb5⟩
  have hB5 := joins hB4 hb5
  have o5_y3 := (o4_y3).below hb5
  have o5_y5 := OS.of ho5
  have lo_y5 : ∀ k, y5.ownBlock = some k → w4.heap.size ≤ k := fun k hk => by have l_ := (ho5.lt k hk).1; (try simp only [World.size_alloc] at l_); omega
  have hi_y5 := o5_y5.hi
  go_wp2_with fail
  refine (eqIntS_same _ _ l0 _ (o5_y3).is (o5_y5).is).mono ?_
  rintro e w6 ⟨rfl, hb6⟩
  have hB6 := joins hB5 hb6
  go_wp2_with fail
  go_returns
  exact ⟨rfl, hB6⟩

set_option maxRecDepth 100000 in
theorem isMove_law (w : World) (a0 : Option Addr) (c0 : Nat) (l0 : List Int) (hv0 : IS w (.slice a0 l0.length c0) l0) (r0 : Bool)
    (hs : ∀ (v0 : Value) (w : World), IS w v0 l0 → clCap v0 → l0.length ≤ 1048576 → Calls Try.prog 10 #[v0] w (Ret w (.bool r0)))
    (hi : ∀ (v0 : Value) (w : World), IS w v0 l0 → clCap v0 → l0.length ≤ 1048576 → Calls Try.prog 12 #[v0] w (Ret w (.bool r0))) :
    Calls Try.prog 3 #[.slice a0 l0.length c0] w (Ret w (.bool true)) := by
  by_cases hl0 : l0.length ≤ 1048576
  · skip
    exact isMove_walk w a0 c0 l0 hl0 hv0 r0 (fun v0 w h0 hc0 => hs v0 w h0 hc0 hl0) (fun v0 w h0 hc0 => hi v0 w h0 hc0 hl0)
  · clear hs hi
    have hn0 : (1048576 : Int) < (l0.length : Int) := by omega
    go_enter Try.func3, Try.ntmps3
    go_wp2_with fail
    go_returns
    exact ⟨rfl, by go_grown⟩
end Go.Proofs.Ytcagiecgbjnefaa
