/- The walk of the law FnExactFindDelay: out of the contracts of the two functions. -/
import Derived.Test.YtapmehgdnofgnabGsn
import Derived.Test.YtapmehgdnofgnabQin
namespace Go.Proofs.Ytapmehgdnofgnab
set_option maxRecDepth 100000
open Go.RowKit

set_option maxRecDepth 100000 in
set_option maxHeartbeats 4000000 in
theorem findDelay_walk (w : World) (a0 : Option Addr) (c0 : Nat) (l0 : List (Int × Int)) (hl0 : l0.length ≤ 1048576) (hv0 : IG w (.slice a0 l0.length c0) l0) (a1 : Option Addr) (c1 : Nat) (l1 : List Int) (hl1 : l1.length ≤ 1048576) (hv1 : IS w (.slice a1 l1.length c1) l1) (r0 : Int) (r1 : Bool)
    (hs : ∀ (v0 : Value) (v1 : Value) (w : World), IG w v0 l0 → IS w v1 l1 → Calls Try.prog 33 #[v0, v1] w (Ret w (.tuple #[.int .i64 r0, .bool r1])))
    (hi : ∀ (v0 : Value) (v1 : Value) (w : World), IG w v0 l0 → IS w v1 l1 → Calls Try.prog 34 #[v0, v1] w (Ret w (.tuple #[.int .i64 r0, .bool r1]))) :
    Calls Try.prog 8 #[.slice a0 l0.length c0, .slice a1 l1.length c1] w (Ret w (.bool true)) := by
  have HS := Lib.hid hs
  have HI := Lib.hid hi
  clear hs hi
  have hB0 : Below w.heap.size w w := Below.refl _ _
  go_enter Try.func8, Try.ntmps8
  go_wp2_with fail
  refine (szGaussS_yes _ l0 _ _ hv0 (by omega) (by omega)).mono ?_
  rintro e w1 ⟨rfl, hb1⟩
  have hB1 := joins hB0 hb1
  go_wp2_with fail
  refine (toGaussS_any _ l0 _ (hv0.below hB1) (by omega)).mono ?_
  rintro e w2 ⟨y2, rfl, ho2, hb2⟩
  have hB2 := joins hB1 hb2
  have o2_y2 := OG.of ho2
  have lo_y2 : ∀ k, y2.ownBlock = some k → w1.heap.size ≤ k := fun k hk => by have l_ := (ho2.lt k hk).1; (try simp only [World.size_alloc] at l_); omega
  have hi_y2 := o2_y2.hi
  go_wp2_with fail
  refine (toIntS_any _ l1 _ (hv1.below hB2) hl1).mono ?_
  rintro e w3 ⟨y3, rfl, ho3, hb3⟩
  have hB3 := joins hB2 hb3
  have o3_y2 := (o2_y2).below hb3
  have o3_y3 := OS.of ho3
  have lo_y3 : ∀ k, y3.ownBlock = some k → w2.heap.size ≤ k := fun k hk => by have l_ := (ho3.lt k hk).1; (try simp only [World.size_alloc] at l_); omega
  have hi_y3 := o3_y3.hi
  go_wp2_with fail
  refine (HS.out _ _ _ (o3_y2).is (o3_y3).is).mono ?_
  rintro e w4 ⟨rfl, hb4⟩
  have hB4 := joins hB3 hb4
  go_wp2_with fail
  refine (toGaussS_any _ l0 _ (hv0.below hB4) (by omega)).mono ?_
  rintro e w5 ⟨y5, rfl, ho5, hb5⟩
  have hB5 := joins hB4 hb5
  have o5_y5 := OG.of ho5
  have lo_y5 : ∀ k, y5.ownBlock = some k → w4.heap.size ≤ k := fun k hk => by have l_ := (ho5.lt k hk).1; (try simp only [World.size_alloc] at l_); omega
  have hi_y5 := o5_y5.hi
  go_wp2_with fail
  refine (toIntS_any _ l1 _ (hv1.below hB5) hl1).mono ?_
  rintro e w6 ⟨y6, rfl, ho6, hb6⟩
  have hB6 := joins hB5 hb6
  have o6_y5 := (o5_y5).below hb6
  have o6_y6 := OS.of ho6
  have lo_y6 : ∀ k, y6.ownBlock = some k → w5.heap.size ≤ k := fun k hk => by have l_ := (ho6.lt k hk).1; (try simp only [World.size_alloc] at l_); omega
  have hi_y6 := o6_y6.hi
  go_wp2_with fail
  refine (HI.out _ _ _ (o6_y5).is (o6_y6).is).mono ?_
  rintro e w7 ⟨rfl, hb7⟩
  have hB7 := joins hB6 hb7
  have o7_y5 := (o6_y5).below hb7
  have o7_y6 := (o6_y6).below hb7
  go_wp2_with fail
  refine (toGaussS_any _ l0 _ (hv0.below hB7) (by omega)).mono ?_
  rintro e w8 ⟨y8, rfl, ho8, hb8⟩
  have hB8 := joins hB7 hb8
  have o8_y5 := (o7_y5).below hb8
  have o8_y6 := (o7_y6).below hb8
  have o8_y8 := OG.of ho8
  have lo_y8 : ∀ k, y8.ownBlock = some k → w7.heap.size ≤ k := fun k hk => by have l_ := (ho8.lt k hk).1; (try simp only [World.size_alloc] at l_); omega
  have hi_y8 := o8_y8.hi
  go_wp2_with fail
  refine (eqGaussS_same _ _ l0 _ (o8_y5).is (o8_y8).is).mono ?_
  rintro e w9 ⟨rfl, hb9⟩
  have hB9 := joins hB8 hb9
  have o9_y6 := (o8_y6).below hb9
  go_wp2_with fail
  refine (toIntS_any _ l1 _ (hv1.below hB9) hl1).mono ?_
  rintro e w10 ⟨y10, rfl, ho10, hb10⟩
  have hB10 := joins hB9 hb10
  have o10_y6 := (o9_y6).below hb10
  have o10_y10 := OS.of ho10
  have lo_y10 : ∀ k, y10.ownBlock = some k → w9.heap.size ≤ k := fun k hk => by have l_ := (ho10.lt k hk).1; (try simp only [World.size_alloc] at l_); omega
  have hi_y10 := o10_y10.hi
  go_wp2_with fail
  refine (eqIntS_same _ _ l1 _ (o10_y6).is (o10_y10).is).mono ?_
  rintro e w11 ⟨rfl, hb11⟩
  have hB11 := joins hB10 hb11
  go_wp2_with fail
  go_returns
  exact ⟨rfl, hB11⟩

set_option maxRecDepth 100000 in
theorem findDelay_law (w : World) (a0 : Option Addr) (c0 : Nat) (l0 : List (Int × Int)) (hv0 : IG w (.slice a0 l0.length c0) l0) (a1 : Option Addr) (c1 : Nat) (l1 : List Int) (hv1 : IS w (.slice a1 l1.length c1) l1) (r0 : Int) (r1 : Bool)
    (hs : ∀ (v0 : Value) (v1 : Value) (w : World), IG w v0 l0 → IS w v1 l1 → l0.length ≤ 1048576 → l1.length ≤ 1048576 → Calls Try.prog 33 #[v0, v1] w (Ret w (.tuple #[.int .i64 r0, .bool r1])))
    (hi : ∀ (v0 : Value) (v1 : Value) (w : World), IG w v0 l0 → IS w v1 l1 → l0.length ≤ 1048576 → l1.length ≤ 1048576 → Calls Try.prog 34 #[v0, v1] w (Ret w (.tuple #[.int .i64 r0, .bool r1]))) :
    Calls Try.prog 8 #[.slice a0 l0.length c0, .slice a1 l1.length c1] w (Ret w (.bool true)) := by
  by_cases hl1 : l1.length ≤ 1048576
  · skip
    by_cases hl0 : l0.length ≤ 1048576
    · skip
      exact findDelay_walk w a0 c0 l0 hl0 hv0 a1 c1 l1 hl1 hv1 r0 r1 (fun v0 v1 w h0 h1 => hs v0 v1 w h0 h1 hl0 hl1) (fun v0 v1 w h0 h1 => hi v0 v1 w h0 h1 hl0 hl1)
    · clear hs hi
      go_enter Try.func8, Try.ntmps8
      go_wp2_with fail
      refine (szGaussS_no _ l0 _ _ hv0 (by omega) (by omega) (by omega)).mono ?_
      rintro e u0 ⟨rfl, hb0⟩
      go_wp2_with fail
      go_returns
      exact ⟨rfl, hb0⟩
  · clear hs hi
    have hn1 : (1048576 : Int) < (l1.length : Int) := by omega
    go_enter Try.func8, Try.ntmps8
    go_wp2_with fail
    go_returns
    exact ⟨rfl, by go_grown⟩
end Go.Proofs.Ytapmehgdnofgnab
