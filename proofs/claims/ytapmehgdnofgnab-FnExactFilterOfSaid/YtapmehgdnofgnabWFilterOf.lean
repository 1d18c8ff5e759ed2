/- The walk of the law FnExactFilterOf: out of the contracts of the two functions. -/
import Derived.Test.YtapmehgdnofgnabGsn
import Derived.Test.YtapmehgdnofgnabQin
namespace Go.Proofs.Ytapmehgdnofgnab
set_option maxRecDepth 100000
open Go.RowKit

set_option maxRecDepth 100000 in
set_option maxHeartbeats 4000000 in
theorem filterOf_walk (w : World) (a0 : Option Addr) (c0 : Nat) (l0 : List (Int × Int)) (hl0 : l0.length ≤ 1048576) (hv0 : IG w (.slice a0 l0.length c0) l0) (a1 : Option Addr) (c1 : Nat) (l1 : List Int) (hl1 : l1.length ≤ 1048576) (hv1 : IS w (.slice a1 l1.length c1) l1) (out0 : List (Int × Int)) (hout0 : out0.length ≤ 1048576) (r1 : Bool)
    (hs : ∀ (v0 : Value) (v1 : Value) (w : World), IG w v0 l0 → IS w v1 l1 → Calls Try.prog 31 #[v0, v1] w (MakesGB w out0 r1))
    (hi : ∀ (v0 : Value) (v1 : Value) (w : World), IG w v0 l0 → IS w v1 l1 → Calls Try.prog 32 #[v0, v1] w (MakesGB w out0 r1)) :
    Calls Try.prog 7 #[.slice a0 l0.length c0, .slice a1 l1.length c1] w (Ret w (.bool true)) := by
  have HS := Lib.hid hs
  have HI := Lib.hid hi
  clear hs hi
  have hB0 : Below w.heap.size w w := Below.refl _ _
  go_enter Try.func7, Try.ntmps7
  go_wp2_with fail
  refine (szGaussS_yes _ l0 _ _ hv0 (by omega) (by omega)).mono ?_
  rintro e w1 ⟨rfl, hb1⟩
  have hB1 := joins hB0 hb1
  go_wp2_with fail
  refine (toGaussS_any _ l0 _ (hv0.below hB1) (by omega)).mono ?_
  rintro e w2 ⟨y2, rfl, ho2, hb2⟩
  have hB2 := joins hB1 hb2
  have o2_y2 := OG.of ho2
  have lo_y2 : ∀ k, y2.ownBlock = some k → w1.heap.size ≤ k := fun k hk => by have l_ := (ho2.lt k hk).1; (try simp only [World.size_alloc] at l_); omega
  have hi_y2 := o2_y2.hi
  go_wp2_with fail
  refine (toIntS_any _ l1 _ (hv1.below hB2) hl1).mono ?_
  rintro e w3 ⟨y3, rfl, ho3, hb3⟩
  have hB3 := joins hB2 hb3
  have o3_y2 := (o2_y2).below hb3
  have o3_y3 := OS.of ho3
  have lo_y3 : ∀ k, y3.ownBlock = some k → w2.heap.size ≤ k := fun k hk => by have l_ := (ho3.lt k hk).1; (try simp only [World.size_alloc] at l_); omega
  have hi_y3 := o3_y3.hi
  go_wp2_with fail
  refine (HS.out _ _ _ (o3_y2).is (o3_y3).is).mono ?_
  rintro e w4 ⟨y4, rfl, ho4, hb4⟩
  have hB4 := joins hB3 hb4
  have o4_y4 := OG.of ho4
  have lo_y4 : ∀ k, y4.ownBlock = some k → w3.heap.size ≤ k := fun k hk => by have l_ := (ho4.lt k hk).1; (try simp only [World.size_alloc] at l_); omega
  have hi_y4 := o4_y4.hi
  go_wp2_with fail
  refine (toGaussS_any _ l0 _ (hv0.below hB4) (by omega)).mono ?_
  rintro e w5 ⟨y5, rfl, ho5, hb5⟩
  have hB5 := joins hB4 hb5
  have o5_y4 := (o4_y4).below hb5
  have o5_y5 := OG.of ho5
  have lo_y5 : ∀ k, y5.ownBlock = some k → w4.heap.size ≤ k := fun k hk => by have l_ := (ho5.lt k hk).1; (try simp only [World.size_alloc] at l_); omega
  have hi_y5 := o5_y5.hi
  go_wp2_with fail
  refine (toIntS_any _ l1 _ (hv1.below hB5) hl1).mono ?_
  rintro e w6 ⟨y6, rfl, ho6, hb6⟩
  have hB6 := joins hB5 hb6
  have o6_y4 := (o5_y4).below hb6
  have o6_y5 := (o5_y5).below hb6
  have o6_y6 := OS.of ho6
  have lo_y6 : ∀ k, y6.ownBlock = some k → w5.heap.size ≤ k := fun k hk => by have l_ := (ho6.lt k hk).1; (try simp only [World.size_alloc] at l_); omega
  have hi_y6 := o6_y6.hi
  go_wp2_with fail
  refine (HI.out _ _ _ (o6_y5).is (o6_y6).is).mono ?_
  rintro e w7 ⟨y7, rfl, ho7, hb7⟩
  have hB7 := joins hB6 hb7
  have o7_y4 := (o6_y4).below hb7
  have o7_y5 := (o6_y5).below hb7
  have o7_y6 := (o6_y6).below hb7
  have o7_y7 := OG.of ho7
  have lo_y7 : ∀ k, y7.ownBlock = some k → w6.heap.size ≤ k := fun k hk => by have l_ := (ho7.lt k hk).1; (try simp only [World.size_alloc] at l_); omega
  have hi_y7 := o7_y7.hi
  go_wp2_with fail
  refine (eqGaussS_same _ _ out0 _ (o7_y7).is (o7_y4).is).mono ?_
  rintro e w8 ⟨rfl, hb8⟩
  have hB8 := joins hB7 hb8
  have o8_y4 := (o7_y4).below hb8
  have o8_y5 := (o7_y5).below hb8
  have o8_y6 := (o7_y6).below hb8
  have o8_y7 := (o7_y7).below hb8
  go_wp2_with fail
  refine (toGaussS_any _ l0 _ (hv0.below hB8) (by omega)).mono ?_
  rintro e w9 ⟨y9, rfl, ho9, hb9⟩
  have hB9 := joins hB8 hb9
  have o9_y4 := (o8_y4).below hb9
  have o9_y5 := (o8_y5).below hb9
  have o9_y6 := (o8_y6).below hb9
  have o9_y7 := (o8_y7).below hb9
  have o9_y9 := OG.of ho9
  have lo_y9 : ∀ k, y9.ownBlock = some k → w8.heap.size ≤ k := fun k hk => by have l_ := (ho9.lt k hk).1; (try simp only [World.size_alloc] at l_); omega
  have hi_y9 := o9_y9.hi
  go_wp2_with fail
  refine (eqGaussS_same _ _ l0 _ (o9_y5).is (o9_y9).is).mono ?_
  rintro e w10 ⟨rfl, hb10⟩
  have hB10 := joins hB9 hb10
  have o10_y4 := (o9_y4).below hb10
  have o10_y5 := (o9_y5).below hb10
  have o10_y6 := (o9_y6).below hb10
  have o10_y7 := (o9_y7).below hb10
  go_wp2_with fail
  refine (toIntS_any _ l1 _ (hv1.below hB10) hl1).mono ?_
  rintro e w11 ⟨y11, rfl, ho11, hb11⟩
  have hB11 := joins hB10 hb11
  have o11_y4 := (o10_y4).below hb11
  have o11_y5 := (o10_y5).below hb11
  have o11_y6 := (o10_y6).below hb11
  have o11_y7 := (o10_y7).below hb11
  have o11_y11 := OS.of ho11
  have lo_y11 : ∀ k, y11.ownBlock = some k → w10.heap.size ≤ k := fun k hk => by have l_ := (ho11.lt k hk).1; (try simp only [World.size_alloc] at l_); omega
  have hi_y11 := o11_y11.hi
  go_wp2_with fail
  refine (eqIntS_same _ _ l1 _ (o11_y6).is (o11_y11).is).mono ?_
  rintro e w12 ⟨rfl, hb12⟩
  have hB12 := joins hB11 hb12
  have o12_y4 := (o11_y4).below hb12
  have o12_y5 := (o11_y5).below hb12
  have o12_y6 := (o11_y6).below hb12
  have o12_y7 := (o11_y7).below hb12
  go_wp2_with fail
  refine (o12_y5.mark (1) (by omega) (by omega)).mono ?_
  rintro e w13 ⟨rfl, o13_y5, ht13⟩
  have hB13 := tjoin hB12 ht13 (fun k hk => by have l_ := lo_y5 k hk; have s1_ := hb1.size; (try simp only [World.size_alloc] at s1_); have s2_ := hb2.size; (try simp only [World.size_alloc] at s2_); have s3_ := hb3.size; (try simp only [World.size_alloc] at s3_); have s4_ := hb4.size; (try simp only [World.size_alloc] at s4_); omega)
  have o13_y4 := o12_y4.touch ht13 (fun k h1 h2 => by have u_ := hi_y4 k h1; have l_ := lo_y5 k h2; omega)
  have o13_y6 := o12_y6.touch ht13 (fun k h1 h2 => by have u_ := hi_y5 k h2; have l_ := lo_y6 k h1; omega)
  have o13_y7 := o12_y7.touch ht13 (fun k h1 h2 => by have u_ := hi_y5 k h2; have l_ := lo_y7 k h1; have s6_ := hb6.size; (try simp only [World.size_alloc] at s6_); omega)
  go_wp2_with fail
  refine (o13_y6.mark (1 + 2 * (l0.length : Int)) (by omega) (by omega)).mono ?_
  rintro e w14 ⟨rfl, o14_y6, ht14⟩
  have hB14 := tjoin hB13 ht14 (fun k hk => by have l_ := lo_y6 k hk; have s1_ := hb1.size; (try simp only [World.size_alloc] at s1_); have s2_ := hb2.size; (try simp only [World.size_alloc] at s2_); have s3_ := hb3.size; (try simp only [World.size_alloc] at s3_); have s4_ := hb4.size; (try simp only [World.size_alloc] at s4_); have s5_ := hb5.size; (try simp only [World.size_alloc] at s5_); omega)
  have o14_y4 := o13_y4.touch ht14 (fun k h1 h2 => by have u_ := hi_y4 k h1; have l_ := lo_y6 k h2; have s5_ := hb5.size; (try simp only [World.size_alloc] at s5_); omega)
  have o14_y7 := o13_y7.touch ht14 (fun k h1 h2 => by have u_ := hi_y6 k h2; have l_ := lo_y7 k h1; omega)
  go_wp2_with fail
  refine (eqGaussS_same _ _ out0 _ (o14_y7).is (o14_y4).is).mono ?_
  rintro e w15 ⟨rfl, hb15⟩
  have hB15 := joins hB14 hb15
  have o15_y4 := (o14_y4).below hb15
  have o15_y7 := (o14_y7).below hb15
  go_wp2_with fail
  refine (o15_y7.mark (1) (by omega) (by omega)).mono ?_
  rintro e w16 ⟨rfl, o16_y7, ht16⟩
  have hB16 := tjoin hB15 ht16 (fun k hk => by have l_ := lo_y7 k hk; have s1_ := hb1.size; (try simp only [World.size_alloc] at s1_); have s2_ := hb2.size; (try simp only [World.size_alloc] at s2_); have s3_ := hb3.size; (try simp only [World.size_alloc] at s3_); have s4_ := hb4.size; (try simp only [World.size_alloc] at s4_); have s5_ := hb5.size; (try simp only [World.size_alloc] at s5_); have s6_ := hb6.size; (try simp only [World.size_alloc] at s6_); omega)
  have o16_y4 := o15_y4.touch ht16 (fun k h1 h2 => by have u_ := hi_y4 k h1; have l_ := lo_y7 k h2; have s5_ := hb5.size; (try simp only [World.size_alloc] at s5_); have s6_ := hb6.size; (try simp only [World.size_alloc] at s6_); omega)
  go_wp2_with fail
  refine (o16_y7.held (by omega) (by omega)).mono ?_
  rintro e w17 ⟨rfl, hb17⟩
  have hB17 := joins hB16 hb17
  have o17_y4 := (o16_y4).below hb17
  have o17_y7 := (o16_y7).below hb17
  go_wp2_with fail
  refine (toGaussS_any _ l0 _ (hv0.below hB17) (by omega)).mono ?_
  rintro e w18 ⟨y18, rfl, ho18, hb18⟩
  have hB18 := joins hB17 hb18
  have o18_y4 := (o17_y4).below hb18
  have o18_y7 := (o17_y7).below hb18
  have o18_y18 := OG.of ho18
  have lo_y18 : ∀ k, y18.ownBlock = some k → w17.heap.size ≤ k := fun k hk => by have l_ := (ho18.lt k hk).1; (try simp only [World.size_alloc] at l_); omega
  have hi_y18 := o18_y18.hi
  go_wp2_with fail
  refine (toIntS_any _ l1 _ (hv1.below hB18) hl1).mono ?_
  rintro e w19 ⟨y19, rfl, ho19, hb19⟩
  have hB19 := joins hB18 hb19
  have o19_y4 := (o18_y4).below hb19
  have o19_y7 := (o18_y7).below hb19
  have o19_y18 := (o18_y18).below hb19
  have o19_y19 := OS.of ho19
  have lo_y19 : ∀ k, y19.ownBlock = some k → w18.heap.size ≤ k := fun k hk => by have l_ := (ho19.lt k hk).1; (try simp only [World.size_alloc] at l_); omega
  have hi_y19 := o19_y19.hi
  go_wp2_with fail
  refine (HI.out _ _ _ (o19_y18).is (o19_y19).is).mono ?_
  rintro e w20 ⟨y20, rfl, ho20, hb20⟩
  have hB20 := joins hB19 hb20
  have o20_y4 := (o19_y4).below hb20
  have o20_y7 := (o19_y7).below hb20
  have o20_y20 := OG.of ho20
  have lo_y20 : ∀ k, y20.ownBlock = some k → w19.heap.size ≤ k := fun k hk => by have l_ := (ho20.lt k hk).1; (try simp only [World.size_alloc] at l_); omega
  have hi_y20 := o20_y20.hi
  go_wp2_with fail
  refine (eqGaussS_same _ _ out0 _ (o20_y20).is (o20_y4).is).mono ?_
  rintro e w21 ⟨rfl, hb21⟩
  have hB21 := joins hB20 hb21
  have o21_y7 := (o20_y7).below hb21
  go_wp2_with fail
  refine (o21_y7.held (by omega) (by omega)).mono ?_
  rintro e w22 ⟨rfl, hb22⟩
  have hB22 := joins hB21 hb22
  go_wp2_with fail
  go_returns
  exact ⟨rfl, hB22⟩

set_option maxRecDepth 100000 in
theorem filterOf_law (w : World) (a0 : Option Addr) (c0 : Nat) (l0 : List (Int × Int)) (hv0 : IG w (.slice a0 l0.length c0) l0) (a1 : Option Addr) (c1 : Nat) (l1 : List Int) (hv1 : IS w (.slice a1 l1.length c1) l1) (out0 : List (Int × Int)) (hout0 : out0.length ≤ 1048576) (r1 : Bool)
    (hs : ∀ (v0 : Value) (v1 : Value) (w : World), IG w v0 l0 → IS w v1 l1 → l0.length ≤ 1048576 → l1.length ≤ 1048576 → Calls Try.prog 31 #[v0, v1] w (MakesGB w out0 r1))
    (hi : ∀ (v0 : Value) (v1 : Value) (w : World), IG w v0 l0 → IS w v1 l1 → l0.length ≤ 1048576 → l1.length ≤ 1048576 → Calls Try.prog 32 #[v0, v1] w (MakesGB w out0 r1)) :
    Calls Try.prog 7 #[.slice a0 l0.length c0, .slice a1 l1.length c1] w (Ret w (.bool true)) := by
  by_cases hl1 : l1.length ≤ 1048576
  · skip
    by_cases hl0 : l0.length ≤ 1048576
    · skip
      exact filterOf_walk w a0 c0 l0 hl0 hv0 a1 c1 l1 hl1 hv1 out0 hout0 r1 (fun v0 v1 w h0 h1 => hs v0 v1 w h0 h1 hl0 hl1) (fun v0 v1 w h0 h1 => hi v0 v1 w h0 h1 hl0 hl1)
    · clear hs hi
      go_enter Try.func7, Try.ntmps7
      go_wp2_with fail
      refine (szGaussS_no _ l0 _ _ hv0 (by omega) (by omega) (by omega)).mono ?_
      rintro e u0 ⟨rfl, hb0⟩
      go_wp2_with fail
      go_returns
      exact ⟨rfl, hb0⟩
  · clear hs hi
    have hn1 : (1048576 : Int) < (l1.length : Int) := by omega
    go_enter Try.func7, Try.ntmps7
    go_wp2_with fail
    go_returns
    exact ⟨rfl, by go_grown⟩
end Go.Proofs.Ytapmehgdnofgnab
