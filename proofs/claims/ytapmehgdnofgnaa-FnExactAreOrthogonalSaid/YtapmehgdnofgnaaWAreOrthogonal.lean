/- The walk of the law FnExactAreOrthogonal: out of the contracts of the two functions. -/
import Derived.Test.YtapmehgdnofgnaaRwL
import Derived.Test.YtapmehgdnofgnaaSpO
namespace Go.Proofs.Ytapmehgdnofgnaa
set_option maxRecDepth 100000
open Go.RowKit

set_option maxRecDepth 100000 in
set_option maxHeartbeats 4000000 in
theorem areOrthogonal_walk (w : World) (a0 : Option Addr) (c0 : Nat) (l0 : List (List Int)) (hl0 : sz2 l0 ≤ 1048576) (hv0 : IR w (.slice a0 l0.length c0) l0) (r0 : Bool) (r1 : Bool)
    (hs : ∀ (v0 : Value) (w : World), IR w v0 l0 → capOk v0 → Calls Try.prog 14 #[v0] w (Ret w (.tuple #[.bool r0, .bool r1])))
    (hi : ∀ (v0 : Value) (w : World), IR w v0 l0 → Calls Try.prog 15 #[v0] w (Ret w (.tuple #[.bool r0, .bool r1]))) :
    Calls Try.prog 4 #[.slice a0 l0.length c0] w (Ret w (.bool true)) := by
  have HS := Lib.hid hs
  have HI := Lib.hid hi
  clear hs hi
  have tz0 := tot_le_sz l0
  have hB0 : Below w.heap.size w w := Below.refl _ _
  go_enter Try.func4, Try.ntmps4
  go_wp2_with fail
  refine (szIntSS_yes _ l0 _ _ hv0 (by omega) (by omega)).mono ?_
  rintro e w1 ⟨rfl, hb1⟩
  have hB1 := joins hB0 hb1
  go_wp2_with fail
  refine (toIntSS_any _ l0 _ (hv0.below hB1) (by omega)).mono ?_
  rintro e w2 ⟨y2, rfl, ho2, hb2⟩
  have hB2 := joins hB1 hb2
  have o2_y2 := OM.of w1.heap.size ho2 (by first | exact Nat.le_refl _ | (simp only [World.size_alloc]; omega))
  have lo_y2 : ∀ k, born w1.heap.size w2.heap.size k → w1.heap.size ≤ k := fun k hk => hk.1
  have hi_y2 := o2_y2.hi
  go_wp2_with fail
  refine (HS.out _ _ (o2_y2).is (OwnR.capOk ho2)).mono ?_
  rintro e w3 ⟨rfl, hb3⟩
  have hB3 := joins hB2 hb3
  go_wp2_with fail
  refine (toIntSS_any _ l0 _ (hv0.below hB3) (by omega)).mono ?_
  rintro e w4 ⟨y4, rfl, ho4, hb4⟩
  have hB4 := joins hB3 hb4
  have o4_y4 := OM.of w3.heap.size ho4 (by first | exact Nat.le_refl _ | (simp only [World.size_alloc]; omega))
  have lo_y4 : ∀ k, born w3.heap.size w4.heap.size k → w3.heap.size ≤ k := fun k hk => hk.1
  have hi_y4 := o4_y4.hi
  go_wp2_with fail
  refine (HI.out _ _ (o4_y4).is).mono ?_
  rintro e w5 ⟨rfl, hb5⟩
  have hB5 := joins hB4 hb5
  have o5_y4 := (o4_y4).below hb5
  go_wp2_with fail
  refine (toIntSS_any _ l0 _ (hv0.below hB5) (by omega)).mono ?_
  rintro e w6 ⟨y6, rfl, ho6, hb6⟩
  have hB6 := joins hB5 hb6
  have o6_y4 := (o5_y4).below hb6
  have o6_y6 := OM.of w5.heap.size ho6 (by first | exact Nat.le_refl _ | (simp only [World.size_alloc]; omega))
  have lo_y6 : ∀ k, born w5.heap.size w6.heap.size k → w5.heap.size ≤ k := fun k hk => hk.1
  have hi_y6 := o6_y6.hi
  go_wp2_with fail
  refine (eqIntSS_same _ _ l0 _ (o6_y4).is (o6_y6).is).mono ?_
  rintro e w7 ⟨rfl, hb7⟩
  have hB7 := joins hB6 hb7
  go_wp2_with fail
  go_returns
  exact ⟨rfl, hB7⟩

set_option maxRecDepth 100000 in
theorem areOrthogonal_law (w : World) (a0 : Option Addr) (c0 : Nat) (l0 : List (List Int)) (hv0 : IR w (.slice a0 l0.length c0) l0) (r0 : Bool) (r1 : Bool)
    (hs : ∀ (v0 : Value) (w : World), IR w v0 l0 → capOk v0 → sz2 l0 ≤ 1048576 → Calls Try.prog 14 #[v0] w (Ret w (.tuple #[.bool r0, .bool r1])))
    (hi : ∀ (v0 : Value) (w : World), IR w v0 l0 → sz2 l0 ≤ 1048576 → Calls Try.prog 15 #[v0] w (Ret w (.tuple #[.bool r0, .bool r1]))) :
    Calls Try.prog 4 #[.slice a0 l0.length c0] w (Ret w (.bool true)) := by
  by_cases hl0 : sz2 l0 ≤ 1048576
  · skip
    exact areOrthogonal_walk w a0 c0 l0 hl0 hv0 r0 r1 (fun v0 w h0 hcp => hs v0 w h0 hcp hl0) (fun v0 w h0 => hi v0 w h0 hl0)
  · clear hs hi
    go_enter Try.func4, Try.ntmps4
    go_wp2_with fail
    refine (szIntSS_no _ l0 _ _ hv0 (by omega) (by omega) (by omega)).mono ?_
    rintro e u0 ⟨rfl, hb0⟩
    go_wp2_with fail
    go_returns
    exact ⟨rfl, hb0⟩
end Go.Proofs.Ytapmehgdnofgnaa
