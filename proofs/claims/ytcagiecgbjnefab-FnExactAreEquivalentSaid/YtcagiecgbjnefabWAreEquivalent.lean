/- The walk of the law FnExactAreEquivalent: out of the contracts of the two functions. -/
import Derived.Test.YtcagiecgbjnefabGsn
namespace Go.Proofs.Ytcagiecgbjnefab
set_option maxRecDepth 100000
open Go.RowKit

set_option maxRecDepth 100000 in
set_option maxHeartbeats 4000000 in
theorem areEquivalent_walk (w : World) (a0 : Option Addr) (c0 : Nat) (l0 : List Int) (hl0 : l0.length ≤ 1048576) (hv0 : IS w (.slice a0 l0.length c0) l0) (a1 : Option Addr) (c1 : Nat) (l1 : List Int) (hl1 : l1.length ≤ 1048576) (hv1 : IS w (.slice a1 l1.length c1) l1) (r0 : Bool) (r1 : Bool)
    (hs : ∀ (v0 : Value) (v1 : Value) (w : World), IS w v0 l0 → IS w v1 l1 → Calls Try.prog 21 #[v0, v1] w (Ret w (.tuple #[.bool r0, .bool r1])))
    (hi : ∀ (v0 : Value) (v1 : Value) (w : World), IS w v0 l0 → IS w v1 l1 → Calls Try.prog 22 #[v0, v1] w (Ret w (.tuple #[.bool r0, .bool r1]))) :
    Calls Try.prog 5 #[.slice a0 l0.length c0, .slice a1 l1.length c1] w (Ret w (.bool true)) := by
  have HS := Lib.hid hs
  have HI := Lib.hid hi
  clear hs hi
  have hB0 : Below w.heap.size w w := Below.refl _ _
  go_enter Try.func5, Try.ntmps5
  go_wp2_with fail
  refine (toIntS_any _ l0 _ hv0 hl0).mono ?_
  rintro e w1 ⟨y1, rfl, ho1, hb1⟩
  have hB1 := joins hB0 hb1
  have o1_y1 := OS.of ho1
  have lo_y1 : ∀ k, y1.ownBlock = some k → w.heap.size ≤ k := fun k hk => by have l_ := (ho1.lt k hk).1; (try simp only [World.size_alloc] at l_); omega
  have hi_y1 := o1_y1.hi
  go_wp2_with fail
  refine (toIntS_any _ l1 _ (hv1.below hB1) hl1).mono ?_
  rintro e w2 ⟨y2, rfl, ho2, hb2⟩
  have hB2 := joins hB1 hb2
  have o2_y1 := (o1_y1).below hb2
  have o2_y2 := OS.of ho2
  have lo_y2 : ∀ k, y2.ownBlock = some k → w1.heap.size ≤ k := fun k hk => by have l_ := (ho2.lt k hk).1; (try simp only [World.size_alloc] at l_); omega
  have hi_y2 := o2_y2.hi
  go_wp2_with fail
  refine (HS.out _ _ _ (o2_y1).is (o2_y2).is).mono ?_
  rintro e w3 ⟨rfl, hb3⟩
  have hB3 := joins hB2 hb3
  go_wp2_with fail
  refine (toIntS_any _ l0 _ (hv0.below hB3) hl0).mono ?_
  rintro e w4 ⟨y4, rfl, ho4, hb4⟩
  have hB4 := joins hB3 hb4
  have o4_y4 := OS.of ho4
  have lo_y4 : ∀ k, y4.ownBlock = some k → w3.heap.size ≤ k := fun k hk => by have l_ := (ho4.lt k hk).1; (try simp only [World.size_alloc] at l_); omega
  have hi_y4 := o4_y4.hi
  go_wp2_with fail
  refine (toIntS_any _ l1 _ (hv1.below hB4) hl1).mono ?_
  rintro e w5 ⟨y5, rfl, ho5, hb5⟩
  have hB5 := joins hB4 hb5
  have o5_y4 := (o4_y4).below hb5
  have o5_y5 := OS.of ho5
  have lo_y5 : ∀ k, y5.ownBlock = some k → w4.heap.size ≤ k := fun k hk => by have l_ := (ho5.lt k hk).1; (try simp only [World.size_alloc] at l_); omega
  have hi_y5 := o5_y5.hi
  go_wp2_with fail
  refine (HI.out _ _ _ (o5_y4).is (o5_y5).is).mono ?_
  rintro e w6 ⟨rfl, hb6⟩
  have hB6 := joins hB5 hb6
  have o6_y4 := (o5_y4).below hb6
  have o6_y5 := (o5_y5).below hb6
  go_wp2_with fail
  refine (toIntS_any _ l0 _ (hv0.below hB6) hl0).mono ?_
  rintro e w7 ⟨y7, rfl, ho7, hb7⟩
  have hB7 := joins hB6 hb7
  have o7_y4 := (o6_y4).below hb7
  have o7_y5 := (o6_y5).below hb7
  have o7_y7 := OS.of ho7
  have lo_y7 : ∀ k, y7.ownBlock = some k → w6.heap.size ≤ k := fun k hk => by have l_ := (ho7.lt k hk).1; (try simp only [World.size_alloc] at l_); omega
  have hi_y7 := o7_y7.hi
  go_wp2_with fail
  refine (eqIntS_same _ _ l0 _ (o7_y4).is (o7_y7).is).mono ?_
  rintro e w8 ⟨rfl, hb8⟩
  have hB8 := joins hB7 hb8
  have o8_y5 := (o7_y5).below hb8
  go_wp2_with fail
  refine (toIntS_any _ l1 _ (hv1.below hB8) hl1).mono ?_
  rintro e w9 ⟨y9, rfl, ho9, hb9⟩
  have hB9 := joins hB8 hb9
  have o9_y5 := (o8_y5).below hb9
  have o9_y9 := OS.of ho9
  have lo_y9 : ∀ k, y9.ownBlock = some k → w8.heap.size ≤ k := fun k hk => by have l_ := (ho9.lt k hk).1; (try simp only [World.size_alloc] at l_); omega
  have hi_y9 := o9_y9.hi
  go_wp2_with fail
  refine (eqIntS_same _ _ l1 _ (o9_y5).is (o9_y9).is).mono ?_
  rintro e w10 ⟨rfl, hb10⟩
  have hB10 := joins hB9 hb10
  go_wp2_with fail
  go_returns
  exact ⟨rfl, hB10⟩

set_option maxRecDepth 100000 in
theorem areEquivalent_law (w : World) (a0 : Option Addr) (c0 : Nat) (l0 : List Int) (hv0 : IS w (.slice a0 l0.length c0) l0) (a1 : Option Addr) (c1 : Nat) (l1 : List Int) (hv1 : IS w (.slice a1 l1.length c1) l1) (r0 : Bool) (r1 : Bool)
    (hs : ∀ (v0 : Value) (v1 : Value) (w : World), IS w v0 l0 → IS w v1 l1 → l0.length ≤ 1048576 → l1.length ≤ 1048576 → Calls Try.prog 21 #[v0, v1] w (Ret w (.tuple #[.bool r0, .bool r1])))
    (hi : ∀ (v0 : Value) (v1 : Value) (w : World), IS w v0 l0 → IS w v1 l1 → l0.length ≤ 1048576 → l1.length ≤ 1048576 → Calls Try.prog 22 #[v0, v1] w (Ret w (.tuple #[.bool r0, .bool r1]))) :
    Calls Try.prog 5 #[.slice a0 l0.length c0, .slice a1 l1.length c1] w (Ret w (.bool true)) := by
  by_cases hl0 : l0.length ≤ 1048576
  · skip
    by_cases hl1 : l1.length ≤ 1048576
    · skip
      exact areEquivalent_walk w a0 c0 l0 hl0 hv0 a1 c1 l1 hl1 hv1 r0 r1 (fun v0 v1 w h0 h1 => hs v0 v1 w h0 h1 hl0 hl1) (fun v0 v1 w h0 h1 => hi v0 v1 w h0 h1 hl0 hl1)
    · clear hs hi
      have hn1 : (1048576 : Int) < (l1.length : Int) := by omega
      go_enter Try.func5, Try.ntmps5
      go_wp2_with fail
      go_returns
      exact ⟨rfl, by go_grown⟩
  · clear hs hi
    have hn0 : (1048576 : Int) < (l0.length : Int) := by omega
    go_enter Try.func5, Try.ntmps5
    go_wp2_with fail
    go_returns
    exact ⟨rfl, by go_grown⟩
end Go.Proofs.Ytcagiecgbjnefab
