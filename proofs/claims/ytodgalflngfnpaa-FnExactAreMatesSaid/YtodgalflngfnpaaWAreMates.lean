/- The walk of the law FnExactAreMates: out of the contracts of the two functions. -/
import Derived.Test.YtodgalflngfnpaaGsn
namespace Go.Proofs.Ytodgalflngfnpaa
set_option maxRecDepth 100000
open Go.RowKit

set_option maxRecDepth 100000 in
set_option maxHeartbeats 4000000 in
theorem areMates_walk (w : World) (a0 : Option Addr) (c0 : Nat) (l0 : List Int) (hl0 : l0.length ≤ 1048576) (hv0 : IS w (.slice a0 l0.length c0) l0) (a1 : Option Addr) (c1 : Nat) (l1 : List Int) (hl1 : l1.length ≤ 1048576) (hv1 : IS w (.slice a1 l1.length c1) l1) (a2 : Option Addr) (c2 : Nat) (l2 : List Int) (hl2 : l2.length ≤ 1048576) (hv2 : IS w (.slice a2 l2.length c2) l2) (a3 : Option Addr) (c3 : Nat) (l3 : List Int) (hl3 : l3.length ≤ 1048576) (hv3 : IS w (.slice a3 l3.length c3) l3) (r0 : Bool) (r1 : Bool)
    (hs : ∀ (v0 : Value) (v1 : Value) (v2 : Value) (v3 : Value) (w : World), IS w v0 l0 → IS w v1 l1 → IS w v2 l2 → IS w v3 l3 → Calls Try.prog 37 #[v0, v1, v2, v3] w (Ret w (.tuple #[.bool r0, .bool r1])))
    (hi : ∀ (v0 : Value) (v1 : Value) (v2 : Value) (v3 : Value) (w : World), IS w v0 l0 → IS w v1 l1 → IS w v2 l2 → IS w v3 l3 → Calls Try.prog 38 #[v0, v1, v2, v3] w (Ret w (.tuple #[.bool r0, .bool r1]))) :
    Calls Try.prog 10 #[.slice a0 l0.length c0, .slice a1 l1.length c1, .slice a2 l2.length c2, .slice a3 l3.length c3] w (Ret w (.bool true)) := by
  have HS := Lib.hid hs
  have HI := Lib.hid hi
  clear hs hi
  have hB0 : Below w.heap.size w w := Below.refl _ _
  go_enter Try.func10, Try.ntmps10
  go_wp2_with fail
  refine (toIntS_any _ l0 _ hv0 hl0).mono ?_
  rintro e w1 ⟨y1, rfl, ho1, hb1⟩
  have hB1 := joins hB0 hb1
  have o1_y1 := OS.of ho1
  have lo_y1 : ∀ k, y1.ownBlock = some k → w.heap.size ≤ k := fun k hk => by have l_ := (ho1.lt k hk).1; (try simp only [World.size_alloc] at l_); omega
  have hi_y1 := o1_y1.hi
  go_wp2_with fail
  refine (toIntS_any _ l1 _ (hv1.below hB1) hl1).mono ?_
  rintro e w2 ⟨y2, rfl, ho2, hb2⟩
  have hB2 := joins hB1 hb2
  have o2_y1 := (o1_y1).below hb2
  have o2_y2 := OS.of ho2
  have lo_y2 : ∀ k, y2.ownBlock = some k → w1.heap.size ≤ k := fun k hk => by have l_ := (ho2.lt k hk).1; (try simp only [World.size_alloc] at l_); omega
  have hi_y2 := o2_y2.hi
  go_wp2_with fail
  refine (toIntS_any _ l2 _ (hv2.below hB2) hl2).mono ?_
  rintro e w3 ⟨y3, rfl, ho3, hb3⟩
  have hB3 := joins hB2 hb3
  have o3_y1 := (o2_y1).below hb3
  have o3_y2 := (o2_y2).below hb3
  have o3_y3 := OS.of ho3
  have lo_y3 : ∀ k, y3.ownBlock = some k → w2.heap.size ≤ k := fun k hk => by have l_ := (ho3.lt k hk).1; (try simp only [World.size_alloc] at l_); omega
  have hi_y3 := o3_y3.hi
  go_wp2_with fail
  refine (toIntS_any _ l3 _ (hv3.below hB3) hl3).mono ?_
  rintro e w4 ⟨y4, rfl, ho4, hb4⟩
  have hB4 := joins hB3 hb4
  have o4_y1 := (o3_y1).below hb4
  have o4_y2 := (o3_y2).below hb4
  have o4_y3 := (o3_y3).below hb4
  have o4_y4 := OS.of ho4
  have lo_y4 : ∀ k, y4.ownBlock = some k → w3.heap.size ≤ k := fun k hk => by have l_ := (ho4.lt k hk).1; (try simp only [World.size_alloc] at l_); omega
  have hi_y4 := o4_y4.hi
  go_wp2_with fail
  refine (HS.out _ _ _ _ _ (o4_y1).is (o4_y2).is (o4_y3).is (o4_y4).is).mono ?_
  rintro e w5 ⟨rfl, hb5⟩
  have hB5 := joins hB4 hb5
  go_wp2_with fail
  refine (toIntS_any _ l0 _ (hv0.below hB5) hl0).mono ?_
  rintro e w6 ⟨y6, rfl, ho6, hb6⟩
  have hB6 := joins hB5 hb6
  have o6_y6 := OS.of ho6
  have lo_y6 : ∀ k, y6.ownBlock = some k → w5.heap.size ≤ k := fun k hk => by have l_ := (ho6.lt k hk).1; (try simp only [World.size_alloc] at l_); omega
  have hi_y6 := o6_y6.hi
  go_wp2_with fail
  refine (toIntS_any _ l1 _ (hv1.below hB6) hl1).mono ?_
  rintro e w7 ⟨y7, rfl, ho7, hb7⟩
  have hB7 := joins hB6 hb7
  have o7_y6 := (o6_y6).below hb7
  have o7_y7 := OS.of ho7
  have lo_y7 : ∀ k, y7.ownBlock = some k → w6.heap.size ≤ k := fun k hk => by have l_ := (ho7.lt k hk).1; (try simp only [World.size_alloc] at l_); omega
  have hi_y7 := o7_y7.hi
  go_wp2_with fail
  refine (toIntS_any _ l2 _ (hv2.below hB7) hl2).mono ?_
  rintro e w8 ⟨y8, rfl, ho8, hb8⟩
  have hB8 := joins hB7 hb8
  have o8_y6 := (o7_y6).below hb8
  have o8_y7 := (o7_y7).below hb8
  have o8_y8 := OS.of ho8
  have lo_y8 : ∀ k, y8.ownBlock = some k → w7.heap.size ≤ k := fun k hk => by have l_ := (ho8.lt k hk).1; (try simp only [World.size_alloc] at l_); omega
  have hi_y8 := o8_y8.hi
  go_wp2_with fail
  refine (toIntS_any _ l3 _ (hv3.below hB8) hl3).mono ?_
  rintro e w9 ⟨y9, rfl, ho9, hb9⟩
  have hB9 := joins hB8 hb9
  have o9_y6 := (o8_y6).below hb9
  have o9_y7 := (o8_y7).below hb9
  have o9_y8 := (o8_y8).below hb9
  have o9_y9 := OS.of ho9
  have lo_y9 : ∀ k, y9.ownBlock = some k → w8.heap.size ≤ k := fun k hk => by have l_ := (ho9.lt k hk).1; (try simp only [World.size_alloc] at l_); omega
  have hi_y9 := o9_y9.hi
  go_wp2_with fail
  refine (HI.out _ _ _ _ _ (o9_y6).is (o9_y7).is (o9_y8).is (o9_y9).is).mono ?_
  rintro e w10 ⟨rfl, hb10⟩
  have hB10 := joins hB9 hb10
  have o10_y6 := (o9_y6).below hb10
  have o10_y7 := (o9_y7).below hb10
  have o10_y8 := (o9_y8).below hb10
  have o10_y9 := (o9_y9).below hb10
  go_wp2_with fail
  refine (toIntS_any _ l0 _ (hv0.below hB10) hl0).mono ?_
  rintro e w11 ⟨y11, rfl, ho11, hb11⟩
  have hB11 := joins hB10 hb11
  have o11_y6 := (o10_y6).below hb11
  have o11_y7 := (o10_y7).below hb11
  have o11_y8 := (o10_y8).below hb11
  have o11_y9 := (o10_y9).below hb11
  have o11_y11 := OS.of ho11
  have lo_y11 : ∀ k, y11.ownBlock = some k → w10.heap.size ≤ k := fun k hk => by have l_ := (ho11.lt k hk).1; (try simp only [World.size_alloc] at l_); omega
  have hi_y11 := o11_y11.hi
  go_wp2_with fail
  refine (eqIntS_same _ _ l0 _ (o11_y6).is (o11_y11).is).mono ?_
  rintro e w12 ⟨rfl, hb12⟩
  have hB12 := joins hB11 hb12
  have o12_y7 := (o11_y7).below hb12
  have o12_y8 := (o11_y8).below hb12
  have o12_y9 := (o11_y9).below hb12
  go_wp2_with fail
  refine (toIntS_any _ l1 _ (hv1.below hB12) hl1).mono ?_
  rintro e w13 ⟨y13, rfl, ho13, hb13⟩
  have hB13 := joins hB12 hb13
  have o13_y7 := (o12_y7).below hb13
  have o13_y8 := (o12_y8).below hb13
  have o13_y9 := (o12_y9).below hb13
  have o13_y13 := OS.of ho13
  have lo_y13 : ∀ k, y13.ownBlock = some k → w12.heap.size ≤ k := fun k hk => by have l_ := (ho13.lt k hk).1; (try simp only [World.size_alloc] at l_); omega
  have hi_y13 := o13_y13.hi
  go_wp2_with fail
  refine (eqIntS_same _ _ l1 _ (o13_y7).is (o13_y13).is).mono ?_
  rintro e w14 ⟨rfl, hb14⟩
  have hB14 := joins hB13 hb14
  have o14_y8 := (o13_y8).below hb14
  have o14_y9 := (o13_y9).below hb14
  go_wp2_with fail
  refine (toIntS_any _ l2 _ (hv2.below hB14) hl2).mono ?_
  rintro e w15 ⟨y15, rfl, ho15, hb15⟩
  have hB15 := joins hB14 hb15
  have o15_y8 := (o14_y8).below hb15
  have o15_y9 := (o14_y9).below hb15
  have o15_y15 := OS.of ho15
  have lo_y15 : ∀ k, y15.ownBlock = some k → w14.heap.size ≤ k := fun k hk => by have l_ := (ho15.lt k hk).1; (try simp only [World.size_alloc] at l_); omega
  have hi_y15 := o15_y15.hi
  go_wp2_with fail
  refine (eqIntS_same _ _ l2 _ (o15_y8).is (o15_y15).is).mono ?_
  rintro e w16 ⟨rfl, hb16⟩
  have hB16 := joins hB15 hb16
  have o16_y9 := (o15_y9).below hb16
  go_wp2_with fail
  refine (toIntS_any _ l3 _ (hv3.below hB16) hl3).mono ?_
  rintro e w17 ⟨y17, rfl, ho17, hb17⟩
  have hB17 := joins hB16 hb17
  have o17_y9 := (o16_y9).below hb17
  have o17_y17 := OS.of ho17
  have lo_y17 : ∀ k, y17.ownBlock = some k → w16.heap.size ≤ k := fun k hk => by have l_ := (ho17.lt k hk).1; (try simp only [World.size_alloc] at l_); omega
  have hi_y17 := o17_y17.hi
  go_wp2_with fail
  refine (eqIntS_same _ _ l3 _ (o17_y9).is (o17_y17).is).mono ?_
  rintro e w18 ⟨rfl, hb18⟩
  have hB18 := joins hB17 hb18
  go_wp2_with fail
  go_returns
  exact ⟨rfl, hB18⟩

set_option maxRecDepth 100000 in
theorem areMates_law (w : World) (a0 : Option Addr) (c0 : Nat) (l0 : List Int) (hv0 : IS w (.slice a0 l0.length c0) l0) (a1 : Option Addr) (c1 : Nat) (l1 : List Int) (hv1 : IS w (.slice a1 l1.length c1) l1) (a2 : Option Addr) (c2 : Nat) (l2 : List Int) (hv2 : IS w (.slice a2 l2.length c2) l2) (a3 : Option Addr) (c3 : Nat) (l3 : List Int) (hv3 : IS w (.slice a3 l3.length c3) l3) (r0 : Bool) (r1 : Bool)
    (hs : ∀ (v0 : Value) (v1 : Value) (v2 : Value) (v3 : Value) (w : World), IS w v0 l0 → IS w v1 l1 → IS w v2 l2 → IS w v3 l3 → l0.length ≤ 1048576 → l1.length ≤ 1048576 → l2.length ≤ 1048576 → l3.length ≤ 1048576 → Calls Try.prog 37 #[v0, v1, v2, v3] w (Ret w (.tuple #[.bool r0, .bool r1])))
    (hi : ∀ (v0 : Value) (v1 : Value) (v2 : Value) (v3 : Value) (w : World), IS w v0 l0 → IS w v1 l1 → IS w v2 l2 → IS w v3 l3 → l0.length ≤ 1048576 → l1.length ≤ 1048576 → l2.length ≤ 1048576 → l3.length ≤ 1048576 → Calls Try.prog 38 #[v0, v1, v2, v3] w (Ret w (.tuple #[.bool r0, .bool r1]))) :
    Calls Try.prog 10 #[.slice a0 l0.length c0, .slice a1 l1.length c1, .slice a2 l2.length c2, .slice a3 l3.length c3] w (Ret w (.bool true)) := by
  by_cases hl0 : l0.length ≤ 1048576
  · skip
    by_cases hl1 : l1.length ≤ 1048576
    · skip
      by_cases hl2 : l2.length ≤ 1048576
      · skip
        by_cases hl3 : l3.length ≤ 1048576
        · skip
          exact areMates_walk w a0 c0 l0 hl0 hv0 a1 c1 l1 hl1 hv1 a2 c2 l2 hl2 hv2 a3 c3 l3 hl3 hv3 r0 r1 (fun v0 v1 v2 v3 w h0 h1 h2 h3 => hs v0 v1 v2 v3 w h0 h1 h2 h3 hl0 hl1 hl2 hl3) (fun v0 v1 v2 v3 w h0 h1 h2 h3 => hi v0 v1 v2 v3 w h0 h1 h2 h3 hl0 hl1 hl2 hl3)
        · clear hs hi
          go_enter Try.func10, Try.ntmps10
          go_wp2_with fail
          go_returns
          exact ⟨rfl, by go_grown⟩
      · clear hs hi
        go_enter Try.func10, Try.ntmps10
        go_wp2_with fail
        go_returns
        exact ⟨rfl, by go_grown⟩
    · clear hs hi
      go_enter Try.func10, Try.ntmps10
      go_wp2_with fail
      go_returns
      exact ⟨rfl, by go_grown⟩
  · clear hs hi
    go_enter Try.func10, Try.ntmps10
    go_wp2_with fail
    go_returns
    exact ⟨rfl, by go_grown⟩
end Go.Proofs.Ytodgalflngfnpaa
