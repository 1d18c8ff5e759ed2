/- The walk of the law FnExactPeakOf: out of the contracts of the two functions. -/
import Derived.Test.YtapmehgdnofgnaaGsn
import Derived.Test.YtapmehgdnofgnaaQin
namespace Go.Proofs.Ytapmehgdnofgnaa
set_option maxRecDepth 100000
open Go.RowKit

set_option maxRecDepth 100000 in
set_option maxHeartbeats 4000000 in
theorem peakOf_walk (w : World) (a0 : Option Addr) (c0 : Nat) (l0 : List (Int × Int)) (hl0 : l0.length ≤ 1048576) (hv0 : IG w (.slice a0 l0.length c0) l0) (r0 : Int) (r1 : Bool)
    (hs : ∀ (v0 : Value) (w : World), IG w v0 l0 → Calls Try.prog 28 #[v0] w (Ret w (.tuple #[.int .i64 r0, .bool r1])))
    (hi : ∀ (v0 : Value) (w : World), IG w v0 l0 → Calls Try.prog 30 #[v0] w (Ret w (.tuple #[.int .i64 r0, .bool r1]))) :
    Calls Try.prog 8 #[.slice a0 l0.length c0] w (Ret w (.bool true)) := by
  have HS := Lib.hid hs
  have HI := Lib.hid hi
  clear hs hi
  have hB0 : Below w.heap.size w w := Below.refl _ _
  go_enter Try.func8, Try.ntmps8
  go_wp2_with fail
  refine (szGaussS_yes _ l0 _ _ hv0 (by omega) (by omega)).mono ?_
  rintro e w1 ⟨rfl, hb1⟩
  have hB1 := joins hB0 hb1
  go_wp2_with fail
  refine (toGaussS_any _ l0 _ (hv0.below hB1) (by omega)).mono ?_
  rintro e w2 ⟨y2, rfl, ho2, hb2⟩
  have hB2 := joins hB1 hb2
  have o2_y2 := OG.of ho2
  have lo_y2 : ∀ k, y2.ownBlock = some k → w1.heap.size ≤ k := fun k hk => by have l_ := (ho2.lt k hk).1; (try simp only [World.size_alloc] at l_); omega
  have hi_y2 := o2_y2.hi
  go_wp2_with fail
  refine (HS.out _ _ (o2_y2).is).mono ?_
  rintro e w3 ⟨rfl, hb3⟩
  have hB3 := joins hB2 hb3
  go_wp2_with fail
  refine (toGaussS_any _ l0 _ (hv0.below hB3) (by omega)).mono ?_
  rintro e w4 ⟨y4, rfl, ho4, hb4⟩
  have hB4 := joins hB3 hb4
  have o4_y4 := OG.of ho4
  have lo_y4 : ∀ k, y4.ownBlock = some k → w3.heap.size ≤ k := fun k hk => by have l_ := (ho4.lt k hk).1; (try simp only [World.size_alloc] at l_); omega
  have hi_y4 := o4_y4.hi
  go_wp2_with fail
  refine (HI.out _ _ (o4_y4).is).mono ?_
  rintro e w5 ⟨rfl, hb5⟩
  have hB5 := joins hB4 hb5
  have o5_y4 := (o4_y4).below hb5
  go_wp2_with fail
  refine (toGaussS_any _ l0 _ (hv0.below hB5) (by omega)).mono ?_
  rintro e w6 ⟨y6, rfl, ho6, hb6⟩
  have hB6 := joins hB5 hb6
  have o6_y4 := (o5_y4).below hb6
  have o6_y6 := OG.of ho6
  have lo_y6 : ∀ k, y6.ownBlock = some k → w5.heap.size ≤ k := fun k hk => by have l_ := (ho6.lt k hk).1; (try simp only [World.size_alloc] at l_); omega
  have hi_y6 := o6_y6.hi
  go_wp2_with fail
  refine (eqGaussS_same _ _ l0 _ (o6_y4).is (o6_y6).is).mono ?_
  rintro e w7 ⟨rfl, hb7⟩
  have hB7 := joins hB6 hb7
  go_wp2_with fail
  go_returns
  exact ⟨rfl, hB7⟩

set_option maxRecDepth 100000 in
theorem peakOf_law (w : World) (a0 : Option Addr) (c0 : Nat) (l0 : List (Int × Int)) (hv0 : IG w (.slice a0 l0.length c0) l0) (r0 : Int) (r1 : Bool)
    (hs : ∀ (v0 : Value) (w : World), IG w v0 l0 → l0.length ≤ 1048576 → Calls Try.prog 28 #[v0] w (Ret w (.tuple #[.int .i64 r0, .bool r1])))
    (hi : ∀ (v0 : Value) (w : World), IG w v0 l0 → l0.length ≤ 1048576 → Calls Try.prog 30 #[v0] w (Ret w (.tuple #[.int .i64 r0, .bool r1]))) :
    Calls Try.prog 8 #[.slice a0 l0.length c0] w (Ret w (.bool true)) := by
  by_cases hl0 : l0.length ≤ 1048576
  · skip
    exact peakOf_walk w a0 c0 l0 hl0 hv0 r0 r1 (fun v0 w h0 => hs v0 w h0 hl0) (fun v0 w h0 => hi v0 w h0 hl0)
  · clear hs hi
    go_enter Try.func8, Try.ntmps8
    go_wp2_with fail
    refine (szGaussS_no _ l0 _ _ hv0 (by omega) (by omega) (by omega)).mono ?_
    rintro e u0 ⟨rfl, hb0⟩
    go_wp2_with fail
    go_returns
    exact ⟨rfl, hb0⟩
end Go.Proofs.Ytapmehgdnofgnaa
