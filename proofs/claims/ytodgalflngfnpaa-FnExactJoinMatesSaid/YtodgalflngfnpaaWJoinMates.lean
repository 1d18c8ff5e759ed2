/- The walk of the law FnExactJoinMates: out of the contracts of the two functions. -/
import Derived.Test.YtodgalflngfnpaaGsn
namespace Go.Proofs.Ytodgalflngfnpaa
set_option maxRecDepth 100000
open Go.RowKit

set_option maxRecDepth 100000 in
set_option maxHeartbeats 4000000 in
theorem joinMates_walk (w : World) (a0 : Option Addr) (c0 : Nat) (l0 : List Int) (hl0 : l0.length ≤ 1048576) (hv0 : IS w (.slice a0 l0.length c0) l0) (a1 : Option Addr) (c1 : Nat) (l1 : List Int) (hl1 : l1.length ≤ 1048576) (hv1 : IS w (.slice a1 l1.length c1) l1) (a2 : Option Addr) (c2 : Nat) (l2 : List Int) (hl2 : l2.length ≤ 1048576) (hv2 : IS w (.slice a2 l2.length c2) l2) (a3 : Option Addr) (c3 : Nat) (l3 : List Int) (hl3 : l3.length ≤ 1048576) (hv3 : IS w (.slice a3 l3.length c3) l3) (out0 : List Int) (hout0 : out0.length ≤ 1048576) (out1 : List Int) (hout1 : out1.length ≤ 1048576) (r2 : Bool)
    (hs : ∀ (v0 : Value) (v1 : Value) (v2 : Value) (v3 : Value) (w : World), IS w v0 l0 → IS w v1 l1 → IS w v2 l2 → IS w v3 l3 → Calls Try.prog 39 #[v0, v1, v2, v3] w (Makes2B w out0 out1 r2))
    (hi : ∀ (v0 : Value) (v1 : Value) (v2 : Value) (v3 : Value) (w : World), IS w v0 l0 → IS w v1 l1 → IS w v2 l2 → IS w v3 l3 → Calls Try.prog 40 #[v0, v1, v2, v3] w (Makes2B w out0 out1 r2)) :
    Calls Try.prog 11 #[.slice a0 l0.length c0, .slice a1 l1.length c1, .slice a2 l2.length c2, .slice a3 l3.length c3] w (Ret w (.bool true)) := by
  have HS := Lib.hid hs
  have HI := Lib.hid hi
  clear hs hi
  have hB0 : Below w.heap.size w w := Below.refl _ _
  go_enter Try.func11, Try.ntmps11
  go_wp2_with fail
  refine (toIntS_any _ l0 _ hv0 hl0).mono ?_
  rintro e w1 ⟨y1, rfl, ho1, hb1⟩
  have hB1 := joins hB0 hb1
  have o1_y1 := OS.of ho1
  have lo_y1 : ∀ k, y1.ownBlock = some k → w.heap.size ≤ k := fun k hk => by have l_ := (ho1.lt k hk).1; (try simp only [World.size_alloc] at l_); omega
  have hi_y1 := o1_y1.hi
  go_wp2_with fail
  refine (toIntS_any _ l1 _ (hv1.below hB1) hl1).mono ?_
  rintro e w2 ⟨y2, rfl, ho2, hb2⟩
  have hB2 := joins hB1 hb2
  have o2_y1 := (o1_y1).below hb2
  have o2_y2 := OS.of ho2
  have lo_y2 : ∀ k, y2.ownBlock = some k → w1.heap.size ≤ k := fun k hk => by have l_ := (ho2.lt k hk).1; (try simp only [World.size_alloc] at l_); omega
  have hi_y2 := o2_y2.hi
  go_wp2_with fail
  refine (toIntS_any _ l2 _ (hv2.below hB2) hl2).mono ?_
  rintro e w3 ⟨y3, rfl, ho3, hb3⟩
  have hB3 := joins hB2 hb3
  have o3_y1 := (o2_y1).below hb3
  have o3_y2 := (o2_y2).below hb3
  have o3_y3 := OS.of ho3
  have lo_y3 : ∀ k, y3.ownBlock = some k → w2.heap.size ≤ k := fun k hk => by have l_ := (ho3.lt k hk).1; (try simp only [World.size_alloc] at l_); omega
  have hi_y3 := o3_y3.hi
  go_wp2_with fail
  refine (toIntS_any _ l3 _ (hv3.below hB3) hl3).mono ?_
  rintro e w4 ⟨y4, rfl, ho4, hb4⟩
  have hB4 := joins hB3 hb4
  have o4_y1 := (o3_y1).below hb4
  have o4_y2 := (o3_y2).below hb4
  have o4_y3 := (o3_y3).below hb4
  have o4_y4 := OS.of ho4
  have lo_y4 : ∀ k, y4.ownBlock = some k → w3.heap.size ≤ k := fun k hk => by have l_ := (ho4.lt k hk).1; (try simp only [World.size_alloc] at l_); omega
  have hi_y4 := o4_y4.hi
  go_wp2_with fail
  refine (HS.out _ _ _ _ _ (o4_y1).is (o4_y2).is (o4_y3).is (o4_y4).is).mono ?_
  rintro e w5 ⟨y5a, y5b, rfl, ho5a, ho5b, ap5, hb5⟩
  have hB5 := joins hB4 hb5
  have o5_y5a := OS.of ho5a
  have lo_y5a : ∀ k, y5a.ownBlock = some k → w4.heap.size ≤ k := fun k hk => by have l_ := (ho5a.lt k hk).1; (try simp only [World.size_alloc] at l_); omega
  have hi_y5a := o5_y5a.hi
  have o5_y5b := OS.of ho5b
  have lo_y5b : ∀ k, y5b.ownBlock = some k → w4.heap.size ≤ k := fun k hk => by have l_ := (ho5b.lt k hk).1; (try simp only [World.size_alloc] at l_); omega
  have hi_y5b := o5_y5b.hi
  go_wp2_with fail
  refine (toIntS_any _ l0 _ (hv0.below hB5) hl0).mono ?_
  rintro e w6 ⟨y6, rfl, ho6, hb6⟩
  have hB6 := joins hB5 hb6
  have o6_y5a := (o5_y5a).below hb6
  have o6_y5b := (o5_y5b).below hb6
  have o6_y6 := OS.of ho6
  have lo_y6 : ∀ k, y6.ownBlock = some k → w5.heap.size ≤ k := fun k hk => by have l_ := (ho6.lt k hk).1; (try simp only [World.size_alloc] at l_); omega
  have hi_y6 := o6_y6.hi
  go_wp2_with fail
  refine (toIntS_any _ l1 _ (hv1.below hB6) hl1).mono ?_
  rintro e w7 ⟨y7, rfl, ho7, hb7⟩
  have hB7 := joins hB6 hb7
  have o7_y5a := (o6_y5a).below hb7
  have o7_y5b := (o6_y5b).below hb7
  have o7_y6 := (o6_y6).below hb7
  have o7_y7 := OS.of ho7
  have lo_y7 : ∀ k, y7.ownBlock = some k → w6.heap.size ≤ k := fun k hk => by have l_ := (ho7.lt k hk).1; (try simp only [World.size_alloc] at l_); omega
  have hi_y7 := o7_y7.hi
  go_wp2_with fail
  refine (toIntS_any _ l2 _ (hv2.below hB7) hl2).mono ?_
  rintro e w8 ⟨y8, rfl, ho8, hb8⟩
  have hB8 := joins hB7 hb8
  have o8_y5a := (o7_y5a).below hb8
  have o8_y5b := (o7_y5b).below hb8
  have o8_y6 := (o7_y6).below hb8
  have o8_y7 := (o7_y7).below hb8
  have o8_y8 := OS.of ho8
  have lo_y8 : ∀ k, y8.ownBlock = some k → w7.heap.size ≤ k := fun k hk => by have l_ := (ho8.lt k hk).1; (try simp only [World.size_alloc] at l_); omega
  have hi_y8 := o8_y8.hi
  go_wp2_with fail
  refine (toIntS_any _ l3 _ (hv3.below hB8) hl3).mono ?_
  rintro e w9 ⟨y9, rfl, ho9, hb9⟩
  have hB9 := joins hB8 hb9
  have o9_y5a := (o8_y5a).below hb9
  have o9_y5b := (o8_y5b).below hb9
  have o9_y6 := (o8_y6).below hb9
  have o9_y7 := (o8_y7).below hb9
  have o9_y8 := (o8_y8).below hb9
  have o9_y9 := OS.of ho9
  have lo_y9 : ∀ k, y9.ownBlock = some k → w8.heap.size ≤ k := fun k hk => by have l_ := (ho9.lt k hk).1; (try simp only [World.size_alloc] at l_); omega
  have hi_y9 := o9_y9.hi
  go_wp2_with fail
  refine (HI.out _ _ _ _ _ (o9_y6).is (o9_y7).is (o9_y8).is (o9_y9).is).mono ?_
  rintro e w10 ⟨y10a, y10b, rfl, ho10a, ho10b, ap10, hb10⟩
  have hB10 := joins hB9 hb10
  have o10_y5a := (o9_y5a).below hb10
  have o10_y5b := (o9_y5b).below hb10
  have o10_y6 := (o9_y6).below hb10
  have o10_y7 := (o9_y7).below hb10
  have o10_y8 := (o9_y8).below hb10
  have o10_y9 := (o9_y9).below hb10
  have o10_y10a := OS.of ho10a
  have lo_y10a : ∀ k, y10a.ownBlock = some k → w9.heap.size ≤ k := fun k hk => by have l_ := (ho10a.lt k hk).1; (try simp only [World.size_alloc] at l_); omega
  have hi_y10a := o10_y10a.hi
  have o10_y10b := OS.of ho10b
  have lo_y10b : ∀ k, y10b.ownBlock = some k → w9.heap.size ≤ k := fun k hk => by have l_ := (ho10b.lt k hk).1; (try simp only [World.size_alloc] at l_); omega
  have hi_y10b := o10_y10b.hi
  go_wp2_with fail
  refine (eqIntS_same _ _ out0 _ (o10_y10a).is (o10_y5a).is).mono ?_
  rintro e w11 ⟨rfl, hb11⟩
  have hB11 := joins hB10 hb11
  have o11_y5a := (o10_y5a).below hb11
  have o11_y5b := (o10_y5b).below hb11
  have o11_y6 := (o10_y6).below hb11
  have o11_y7 := (o10_y7).below hb11
  have o11_y8 := (o10_y8).below hb11
  have o11_y9 := (o10_y9).below hb11
  have o11_y10a := (o10_y10a).below hb11
  have o11_y10b := (o10_y10b).below hb11
  go_wp2_with fail
  refine (eqIntS_same _ _ out1 _ (o11_y10b).is (o11_y5b).is).mono ?_
  rintro e w12 ⟨rfl, hb12⟩
  have hB12 := joins hB11 hb12
  have o12_y5a := (o11_y5a).below hb12
  have o12_y5b := (o11_y5b).below hb12
  have o12_y6 := (o11_y6).below hb12
  have o12_y7 := (o11_y7).below hb12
  have o12_y8 := (o11_y8).below hb12
  have o12_y9 := (o11_y9).below hb12
  have o12_y10a := (o11_y10a).below hb12
  have o12_y10b := (o11_y10b).below hb12
  go_wp2_with fail
  refine (toIntS_any _ l0 _ (hv0.below hB12) hl0).mono ?_
  rintro e w13 ⟨y13, rfl, ho13, hb13⟩
  have hB13 := joins hB12 hb13
  have o13_y5a := (o12_y5a).below hb13
  have o13_y5b := (o12_y5b).below hb13
  have o13_y6 := (o12_y6).below hb13
  have o13_y7 := (o12_y7).below hb13
  have o13_y8 := (o12_y8).below hb13
  have o13_y9 := (o12_y9).below hb13
  have o13_y10a := (o12_y10a).below hb13
  have o13_y10b := (o12_y10b).below hb13
  have o13_y13 := OS.of ho13
  have lo_y13 : ∀ k, y13.ownBlock = some k → w12.heap.size ≤ k := fun k hk => by have l_ := (ho13.lt k hk).1; (try simp only [World.size_alloc] at l_); omega
  have hi_y13 := o13_y13.hi
  go_wp2_with fail
  refine (eqIntS_same _ _ l0 _ (o13_y6).is (o13_y13).is).mono ?_
  rintro e w14 ⟨rfl, hb14⟩
  have hB14 := joins hB13 hb14
  have o14_y5a := (o13_y5a).below hb14
  have o14_y5b := (o13_y5b).below hb14
  have o14_y6 := (o13_y6).below hb14
  have o14_y7 := (o13_y7).below hb14
  have o14_y8 := (o13_y8).below hb14
  have o14_y9 := (o13_y9).below hb14
  have o14_y10a := (o13_y10a).below hb14
  have o14_y10b := (o13_y10b).below hb14
  go_wp2_with fail
  refine (toIntS_any _ l1 _ (hv1.below hB14) hl1).mono ?_
  rintro e w15 ⟨y15, rfl, ho15, hb15⟩
  have hB15 := joins hB14 hb15
  have o15_y5a := (o14_y5a).below hb15
  have o15_y5b := (o14_y5b).below hb15
  have o15_y6 := (o14_y6).below hb15
  have o15_y7 := (o14_y7).below hb15
  have o15_y8 := (o14_y8).below hb15
  have o15_y9 := (o14_y9).below hb15
  have o15_y10a := (o14_y10a).below hb15
  have o15_y10b := (o14_y10b).below hb15
  have o15_y15 := OS.of ho15
  have lo_y15 : ∀ k, y15.ownBlock = some k → w14.heap.size ≤ k := fun k hk => by have l_ := (ho15.lt k hk).1; (try simp only [World.size_alloc] at l_); omega
  have hi_y15 := o15_y15.hi
  go_wp2_with fail
  refine (eqIntS_same _ _ l1 _ (o15_y7).is (o15_y15).is).mono ?_
  rintro e w16 ⟨rfl, hb16⟩
  have hB16 := joins hB15 hb16
  have o16_y5a := (o15_y5a).below hb16
  have o16_y5b := (o15_y5b).below hb16
  have o16_y6 := (o15_y6).below hb16
  have o16_y7 := (o15_y7).below hb16
  have o16_y8 := (o15_y8).below hb16
  have o16_y9 := (o15_y9).below hb16
  have o16_y10a := (o15_y10a).below hb16
  have o16_y10b := (o15_y10b).below hb16
  go_wp2_with fail
  refine (toIntS_any _ l2 _ (hv2.below hB16) hl2).mono ?_
  rintro e w17 ⟨y17, rfl, ho17, hb17⟩
  have hB17 := joins hB16 hb17
  have o17_y5a := (o16_y5a).below hb17
  have o17_y5b := (o16_y5b).below hb17
  have o17_y6 := (o16_y6).below hb17
  have o17_y7 := (o16_y7).below hb17
  have o17_y8 := (o16_y8).below hb17
  have o17_y9 := (o16_y9).below hb17
  have o17_y10a := (o16_y10a).below hb17
  have o17_y10b := (o16_y10b).below hb17
  have o17_y17 := OS.of ho17
  have lo_y17 : ∀ k, y17.ownBlock = some k → w16.heap.size ≤ k := fun k hk => by have l_ := (ho17.lt k hk).1; (try simp only [World.size_alloc] at l_); omega
  have hi_y17 := o17_y17.hi
  go_wp2_with fail
  refine (eqIntS_same _ _ l2 _ (o17_y8).is (o17_y17).is).mono ?_
  rintro e w18 ⟨rfl, hb18⟩
  have hB18 := joins hB17 hb18
  have o18_y5a := (o17_y5a).below hb18
  have o18_y5b := (o17_y5b).below hb18
  have o18_y6 := (o17_y6).below hb18
  have o18_y7 := (o17_y7).below hb18
  have o18_y8 := (o17_y8).below hb18
  have o18_y9 := (o17_y9).below hb18
  have o18_y10a := (o17_y10a).below hb18
  have o18_y10b := (o17_y10b).below hb18
  go_wp2_with fail
  refine (toIntS_any _ l3 _ (hv3.below hB18) hl3).mono ?_
  rintro e w19 ⟨y19, rfl, ho19, hb19⟩
  have hB19 := joins hB18 hb19
  have o19_y5a := (o18_y5a).below hb19
  have o19_y5b := (o18_y5b).below hb19
  have o19_y6 := (o18_y6).below hb19
  have o19_y7 := (o18_y7).below hb19
  have o19_y8 := (o18_y8).below hb19
  have o19_y9 := (o18_y9).below hb19
  have o19_y10a := (o18_y10a).below hb19
  have o19_y10b := (o18_y10b).below hb19
  have o19_y19 := OS.of ho19
  have lo_y19 : ∀ k, y19.ownBlock = some k → w18.heap.size ≤ k := fun k hk => by have l_ := (ho19.lt k hk).1; (try simp only [World.size_alloc] at l_); omega
  have hi_y19 := o19_y19.hi
  go_wp2_with fail
  refine (eqIntS_same _ _ l3 _ (o19_y9).is (o19_y19).is).mono ?_
  rintro e w20 ⟨rfl, hb20⟩
  have hB20 := joins hB19 hb20
  have o20_y5a := (o19_y5a).below hb20
  have o20_y5b := (o19_y5b).below hb20
  have o20_y6 := (o19_y6).below hb20
  have o20_y7 := (o19_y7).below hb20
  have o20_y8 := (o19_y8).below hb20
  have o20_y9 := (o19_y9).below hb20
  have o20_y10a := (o19_y10a).below hb20
  have o20_y10b := (o19_y10b).below hb20
  go_wp2_with fail
  refine (o20_y6.mark (1) (by omega) (by omega)).mono ?_
  rintro e w21 ⟨rfl, o21_y6, ht21⟩
  have hB21 := tjoin hB20 ht21 (fun k hk => by have l_ := lo_y6 k hk; have s1_ := hb1.size; (try simp only [World.size_alloc] at s1_); have s2_ := hb2.size; (try simp only [World.size_alloc] at s2_); have s3_ := hb3.size; (try simp only [World.size_alloc] at s3_); have s4_ := hb4.size; (try simp only [World.size_alloc] at s4_); have s5_ := hb5.size; (try simp only [World.size_alloc] at s5_); omega)
  have o21_y5a := o20_y5a.touch ht21 (fun k h1 h2 => by have u_ := hi_y5a k h1; have l_ := lo_y6 k h2; omega)
  have o21_y5b := o20_y5b.touch ht21 (fun k h1 h2 => by have u_ := hi_y5b k h1; have l_ := lo_y6 k h2; omega)
  have o21_y7 := o20_y7.touch ht21 (fun k h1 h2 => by have u_ := hi_y6 k h2; have l_ := lo_y7 k h1; omega)
  have o21_y8 := o20_y8.touch ht21 (fun k h1 h2 => by have u_ := hi_y6 k h2; have l_ := lo_y8 k h1; have s7_ := hb7.size; (try simp only [World.size_alloc] at s7_); omega)
  have o21_y9 := o20_y9.touch ht21 (fun k h1 h2 => by have u_ := hi_y6 k h2; have l_ := lo_y9 k h1; have s7_ := hb7.size; (try simp only [World.size_alloc] at s7_); have s8_ := hb8.size; (try simp only [World.size_alloc] at s8_); omega)
  have o21_y10a := o20_y10a.touch ht21 (fun k h1 h2 => by have u_ := hi_y6 k h2; have l_ := lo_y10a k h1; have s7_ := hb7.size; (try simp only [World.size_alloc] at s7_); have s8_ := hb8.size; (try simp only [World.size_alloc] at s8_); have s9_ := hb9.size; (try simp only [World.size_alloc] at s9_); omega)
  have o21_y10b := o20_y10b.touch ht21 (fun k h1 h2 => by have u_ := hi_y6 k h2; have l_ := lo_y10b k h1; have s7_ := hb7.size; (try simp only [World.size_alloc] at s7_); have s8_ := hb8.size; (try simp only [World.size_alloc] at s8_); have s9_ := hb9.size; (try simp only [World.size_alloc] at s9_); omega)
  go_wp2_with fail
  refine (o21_y7.mark (1 + l0.length) (by omega) (by omega)).mono ?_
  rintro e w22 ⟨rfl, o22_y7, ht22⟩
  have hB22 := tjoin hB21 ht22 (fun k hk => by have l_ := lo_y7 k hk; have s1_ := hb1.size; (try simp only [World.size_alloc] at s1_); have s2_ := hb2.size; (try simp only [World.size_alloc] at s2_); have s3_ := hb3.size; (try simp only [World.size_alloc] at s3_); have s4_ := hb4.size; (try simp only [World.size_alloc] at s4_); have s5_ := hb5.size; (try simp only [World.size_alloc] at s5_); have s6_ := hb6.size; (try simp only [World.size_alloc] at s6_); omega)
  have o22_y5a := o21_y5a.touch ht22 (fun k h1 h2 => by have u_ := hi_y5a k h1; have l_ := lo_y7 k h2; have s6_ := hb6.size; (try simp only [World.size_alloc] at s6_); omega)
  have o22_y5b := o21_y5b.touch ht22 (fun k h1 h2 => by have u_ := hi_y5b k h1; have l_ := lo_y7 k h2; have s6_ := hb6.size; (try simp only [World.size_alloc] at s6_); omega)
  have o22_y8 := o21_y8.touch ht22 (fun k h1 h2 => by have u_ := hi_y7 k h2; have l_ := lo_y8 k h1; omega)
  have o22_y9 := o21_y9.touch ht22 (fun k h1 h2 => by have u_ := hi_y7 k h2; have l_ := lo_y9 k h1; have s8_ := hb8.size; (try simp only [World.size_alloc] at s8_); omega)
  have o22_y10a := o21_y10a.touch ht22 (fun k h1 h2 => by have u_ := hi_y7 k h2; have l_ := lo_y10a k h1; have s8_ := hb8.size; (try simp only [World.size_alloc] at s8_); have s9_ := hb9.size; (try simp only [World.size_alloc] at s9_); omega)
  have o22_y10b := o21_y10b.touch ht22 (fun k h1 h2 => by have u_ := hi_y7 k h2; have l_ := lo_y10b k h1; have s8_ := hb8.size; (try simp only [World.size_alloc] at s8_); have s9_ := hb9.size; (try simp only [World.size_alloc] at s9_); omega)
  go_wp2_with fail
  refine (o22_y8.mark (1 + l0.length + l1.length) (by omega) (by omega)).mono ?_
  rintro e w23 ⟨rfl, o23_y8, ht23⟩
  have hB23 := tjoin hB22 ht23 (fun k hk => by have l_ := lo_y8 k hk; have s1_ := hb1.size; (try simp only [World.size_alloc] at s1_); have s2_ := hb2.size; (try simp only [World.size_alloc] at s2_); have s3_ := hb3.size; (try simp only [World.size_alloc] at s3_); have s4_ := hb4.size; (try simp only [World.size_alloc] at s4_); have s5_ := hb5.size; (try simp only [World.size_alloc] at s5_); have s6_ := hb6.size; (try simp only [World.size_alloc] at s6_); have s7_ := hb7.size; (try simp only [World.size_alloc] at s7_); omega)
  have o23_y5a := o22_y5a.touch ht23 (fun k h1 h2 => by have u_ := hi_y5a k h1; have l_ := lo_y8 k h2; have s6_ := hb6.size; (try simp only [World.size_alloc] at s6_); have s7_ := hb7.size; (try simp only [World.size_alloc] at s7_); omega)
  have o23_y5b := o22_y5b.touch ht23 (fun k h1 h2 => by have u_ := hi_y5b k h1; have l_ := lo_y8 k h2; have s6_ := hb6.size; (try simp only [World.size_alloc] at s6_); have s7_ := hb7.size; (try simp only [World.size_alloc] at s7_); omega)
  have o23_y9 := o22_y9.touch ht23 (fun k h1 h2 => by have u_ := hi_y8 k h2; have l_ := lo_y9 k h1; omega)
  have o23_y10a := o22_y10a.touch ht23 (fun k h1 h2 => by have u_ := hi_y8 k h2; have l_ := lo_y10a k h1; have s9_ := hb9.size; (try simp only [World.size_alloc] at s9_); omega)
  have o23_y10b := o22_y10b.touch ht23 (fun k h1 h2 => by have u_ := hi_y8 k h2; have l_ := lo_y10b k h1; have s9_ := hb9.size; (try simp only [World.size_alloc] at s9_); omega)
  go_wp2_with fail
  refine (o23_y9.mark (1 + l0.length + l1.length + l2.length) (by omega) (by omega)).mono ?_
  rintro e w24 ⟨rfl, o24_y9, ht24⟩
  have hB24 := tjoin hB23 ht24 (fun k hk => by have l_ := lo_y9 k hk; have s1_ := hb1.size; (try simp only [World.size_alloc] at s1_); have s2_ := hb2.size; (try simp only [World.size_alloc] at s2_); have s3_ := hb3.size; (try simp only [World.size_alloc] at s3_); have s4_ := hb4.size; (try simp only [World.size_alloc] at s4_); have s5_ := hb5.size; (try simp only [World.size_alloc] at s5_); have s6_ := hb6.size; (try simp only [World.size_alloc] at s6_); have s7_ := hb7.size; (try simp only [World.size_alloc] at s7_); have s8_ := hb8.size; (try simp only [World.size_alloc] at s8_); omega)
  have o24_y5a := o23_y5a.touch ht24 (fun k h1 h2 => by have u_ := hi_y5a k h1; have l_ := lo_y9 k h2; have s6_ := hb6.size; (try simp only [World.size_alloc] at s6_); have s7_ := hb7.size; (try simp only [World.size_alloc] at s7_); have s8_ := hb8.size; (try simp only [World.size_alloc] at s8_); omega)
  have o24_y5b := o23_y5b.touch ht24 (fun k h1 h2 => by have u_ := hi_y5b k h1; have l_ := lo_y9 k h2; have s6_ := hb6.size; (try simp only [World.size_alloc] at s6_); have s7_ := hb7.size; (try simp only [World.size_alloc] at s7_); have s8_ := hb8.size; (try simp only [World.size_alloc] at s8_); omega)
  have o24_y10a := o23_y10a.touch ht24 (fun k h1 h2 => by have u_ := hi_y9 k h2; have l_ := lo_y10a k h1; omega)
  have o24_y10b := o23_y10b.touch ht24 (fun k h1 h2 => by have u_ := hi_y9 k h2; have l_ := lo_y10b k h1; omega)
  go_wp2_with fail
  refine (eqIntS_same _ _ out0 _ (o24_y10a).is (o24_y5a).is).mono ?_
  rintro e w25 ⟨rfl, hb25⟩
  have hB25 := joins hB24 hb25
  have o25_y5a := (o24_y5a).below hb25
  have o25_y5b := (o24_y5b).below hb25
  have o25_y10a := (o24_y10a).below hb25
  have o25_y10b := (o24_y10b).below hb25
  go_wp2_with fail
  refine (eqIntS_same _ _ out1 _ (o25_y10b).is (o25_y5b).is).mono ?_
  rintro e w26 ⟨rfl, hb26⟩
  have hB26 := joins hB25 hb26
  have o26_y5a := (o25_y5a).below hb26
  have o26_y5b := (o25_y5b).below hb26
  have o26_y10a := (o25_y10a).below hb26
  have o26_y10b := (o25_y10b).below hb26
  go_wp2_with fail
  refine (o26_y10a.mark (1) (by omega) (by omega)).mono ?_
  rintro e w27 ⟨rfl, o27_y10a, ht27⟩
  have hB27 := tjoin hB26 ht27 (fun k hk => by have l_ := lo_y10a k hk; have s1_ := hb1.size; (try simp only [World.size_alloc] at s1_); have s2_ := hb2.size; (try simp only [World.size_alloc] at s2_); have s3_ := hb3.size; (try simp only [World.size_alloc] at s3_); have s4_ := hb4.size; (try simp only [World.size_alloc] at s4_); have s5_ := hb5.size; (try simp only [World.size_alloc] at s5_); have s6_ := hb6.size; (try simp only [World.size_alloc] at s6_); have s7_ := hb7.size; (try simp only [World.size_alloc] at s7_); have s8_ := hb8.size; (try simp only [World.size_alloc] at s8_); have s9_ := hb9.size; (try simp only [World.size_alloc] at s9_); omega)
  have o27_y5a := o26_y5a.touch ht27 (fun k h1 h2 => by have u_ := hi_y5a k h1; have l_ := lo_y10a k h2; have s6_ := hb6.size; (try simp only [World.size_alloc] at s6_); have s7_ := hb7.size; (try simp only [World.size_alloc] at s7_); have s8_ := hb8.size; (try simp only [World.size_alloc] at s8_); have s9_ := hb9.size; (try simp only [World.size_alloc] at s9_); omega)
  have o27_y5b := o26_y5b.touch ht27 (fun k h1 h2 => by have u_ := hi_y5b k h1; have l_ := lo_y10a k h2; have s6_ := hb6.size; (try simp only [World.size_alloc] at s6_); have s7_ := hb7.size; (try simp only [World.size_alloc] at s7_); have s8_ := hb8.size; (try simp only [World.size_alloc] at s8_); have s9_ := hb9.size; (try simp only [World.size_alloc] at s9_); omega)
  have o27_y10b := o26_y10b.touch ht27 (fun k h1 h2 => ap10 k h2 h1)
  go_wp2_with fail
  refine (o27_y10b.mark (1 + out0.length) (by omega) (by omega)).mono ?_
  rintro e w28 ⟨rfl, o28_y10b, ht28⟩
  have hB28 := tjoin hB27 ht28 (fun k hk => by have l_ := lo_y10b k hk; have s1_ := hb1.size; (try simp only [World.size_alloc] at s1_); have s2_ := hb2.size; (try simp only [World.size_alloc] at s2_); have s3_ := hb3.size; (try simp only [World.size_alloc] at s3_); have s4_ := hb4.size; (try simp only [World.size_alloc] at s4_); have s5_ := hb5.size; (try simp only [World.size_alloc] at s5_); have s6_ := hb6.size; (try simp only [World.size_alloc] at s6_); have s7_ := hb7.size; (try simp only [World.size_alloc] at s7_); have s8_ := hb8.size; (try simp only [World.size_alloc] at s8_); have s9_ := hb9.size; (try simp only [World.size_alloc] at s9_); omega)
  have o28_y5a := o27_y5a.touch ht28 (fun k h1 h2 => by have u_ := hi_y5a k h1; have l_ := lo_y10b k h2; have s6_ := hb6.size; (try simp only [World.size_alloc] at s6_); have s7_ := hb7.size; (try simp only [World.size_alloc] at s7_); have s8_ := hb8.size; (try simp only [World.size_alloc] at s8_); have s9_ := hb9.size; (try simp only [World.size_alloc] at s9_); omega)
  have o28_y5b := o27_y5b.touch ht28 (fun k h1 h2 => by have u_ := hi_y5b k h1; have l_ := lo_y10b k h2; have s6_ := hb6.size; (try simp only [World.size_alloc] at s6_); have s7_ := hb7.size; (try simp only [World.size_alloc] at s7_); have s8_ := hb8.size; (try simp only [World.size_alloc] at s8_); have s9_ := hb9.size; (try simp only [World.size_alloc] at s9_); omega)
  have o28_y10a := o27_y10a.touch ht28 (fun k h1 h2 => ap10 k h1 h2)
  go_wp2_with fail
  refine (o28_y10a.held (by omega) (by omega)).mono ?_
  rintro e w29 ⟨rfl, hb29⟩
  have hB29 := joins hB28 hb29
  have o29_y5a := (o28_y5a).below hb29
  have o29_y5b := (o28_y5b).below hb29
  have o29_y10a := (o28_y10a).below hb29
  have o29_y10b := (o28_y10b).below hb29
  go_wp2_with fail
  refine (o29_y10b.held (by omega) (by omega)).mono ?_
  rintro e w30 ⟨rfl, hb30⟩
  have hB30 := joins hB29 hb30
  have o30_y5a := (o29_y5a).below hb30
  have o30_y5b := (o29_y5b).below hb30
  have o30_y10a := (o29_y10a).below hb30
  have o30_y10b := (o29_y10b).below hb30
  go_wp2_with fail
  refine (toIntS_any _ l0 _ (hv0.below hB30) hl0).mono ?_
  rintro e w31 ⟨y31, rfl, ho31, hb31⟩
  have hB31 := joins hB30 hb31
  have o31_y5a := (o30_y5a).below hb31
  have o31_y5b := (o30_y5b).below hb31
  have o31_y10a := (o30_y10a).below hb31
  have o31_y10b := (o30_y10b).below hb31
  have o31_y31 := OS.of ho31
  have lo_y31 : ∀ k, y31.ownBlock = some k → w30.heap.size ≤ k := fun k hk => by have l_ := (ho31.lt k hk).1; (try simp only [World.size_alloc] at l_); omega
  have hi_y31 := o31_y31.hi
  go_wp2_with fail
  refine (toIntS_any _ l1 _ (hv1.below hB31) hl1).mono ?_
  rintro e w32 ⟨y32, rfl, ho32, hb32⟩
  have hB32 := joins hB31 hb32
  have o32_y5a := (o31_y5a).below hb32
  have o32_y5b := (o31_y5b).below hb32
  have o32_y10a := (o31_y10a).below hb32
  have o32_y10b := (o31_y10b).below hb32
  have o32_y31 := (o31_y31).below hb32
  have o32_y32 := OS.of ho32
  have lo_y32 : ∀ k, y32.ownBlock = some k → w31.heap.size ≤ k := fun k hk => by have l_ := (ho32.lt k hk).1; (try simp only [World.size_alloc] at l_); omega
  have hi_y32 := o32_y32.hi
  go_wp2_with fail
  refine (toIntS_any _ l2 _ (hv2.below hB32) hl2).mono ?_
  rintro e w33 ⟨y33, rfl, ho33, hb33⟩
  have hB33 := joins hB32 hb33
  have o33_y5a := (o32_y5a).below hb33
  have o33_y5b := (o32_y5b).below hb33
  have o33_y10a := (o32_y10a).below hb33
  have o33_y10b := (o32_y10b).below hb33
  have o33_y31 := (o32_y31).below hb33
  have o33_y32 := (o32_y32).below hb33
  have o33_y33 := OS.of ho33
  have lo_y33 : ∀ k, y33.ownBlock = some k → w32.heap.size ≤ k := fun k hk => by have l_ := (ho33.lt k hk).1; (try simp only [World.size_alloc] at l_); omega
  have hi_y33 := o33_y33.hi
  go_wp2_with fail
  refine (toIntS_any _ l3 _ (hv3.below hB33) hl3).mono ?_
  rintro e w34 ⟨y34, rfl, ho34, hb34⟩
  have hB34 := joins hB33 hb34
  have o34_y5a := (o33_y5a).below hb34
  have o34_y5b := (o33_y5b).below hb34
  have o34_y10a := (o33_y10a).below hb34
  have o34_y10b := (o33_y10b).below hb34
  have o34_y31 := (o33_y31).below hb34
  have o34_y32 := (o33_y32).below hb34
  have o34_y33 := (o33_y33).below hb34
  have o34_y34 := OS.of ho34
  have lo_y34 : ∀ k, y34.ownBlock = some k → w33.heap.size ≤ k := fun k hk => by have l_ := (ho34.lt k hk).1; (try simp only [World.size_alloc] at l_); omega
  have hi_y34 := o34_y34.hi
  go_wp2_with fail
  refine (HI.out _ _ _ _ _ (o34_y31).is (o34_y32).is (o34_y33).is (o34_y34).is).mono ?_
  rintro e w35 ⟨y35a, y35b, rfl, ho35a, ho35b, ap35, hb35⟩
  have hB35 := joins hB34 hb35
  have o35_y5a := (o34_y5a).below hb35
  have o35_y5b := (o34_y5b).below hb35
  have o35_y10a := (o34_y10a).below hb35
  have o35_y10b := (o34_y10b).below hb35
  have o35_y35a := OS.of ho35a
  have lo_y35a : ∀ k, y35a.ownBlock = some k → w34.heap.size ≤ k := fun k hk => by have l_ := (ho35a.lt k hk).1; (try simp only [World.size_alloc] at l_); omega
  have hi_y35a := o35_y35a.hi
  have o35_y35b := OS.of ho35b
  have lo_y35b : ∀ k, y35b.ownBlock = some k → w34.heap.size ≤ k := fun k hk => by have l_ := (ho35b.lt k hk).1; (try simp only [World.size_alloc] at l_); omega
  have hi_y35b := o35_y35b.hi
  go_wp2_with fail
  refine (eqIntS_same _ _ out0 _ (o35_y35a).is (o35_y5a).is).mono ?_
  rintro e w36 ⟨rfl, hb36⟩
  have hB36 := joins hB35 hb36
  have o36_y5b := (o35_y5b).below hb36
  have o36_y10a := (o35_y10a).below hb36
  have o36_y10b := (o35_y10b).below hb36
  have o36_y35b := (o35_y35b).below hb36
  go_wp2_with fail
  refine (eqIntS_same _ _ out1 _ (o36_y35b).is (o36_y5b).is).mono ?_
  rintro e w37 ⟨rfl, hb37⟩
  have hB37 := joins hB36 hb37
  have o37_y10a := (o36_y10a).below hb37
  have o37_y10b := (o36_y10b).below hb37
  go_wp2_with fail
  refine (o37_y10a.held (by omega) (by omega)).mono ?_
  rintro e w38 ⟨rfl, hb38⟩
  have hB38 := joins hB37 hb38
  have o38_y10b := (o37_y10b).below hb38
  go_wp2_with fail
  refine (o38_y10b.held (by omega) (by omega)).mono ?_
  rintro e w39 ⟨rfl, hb39⟩
  have hB39 := joins hB38 hb39
  go_wp2_with fail
  go_returns
  exact ⟨rfl, hB39⟩

set_option maxRecDepth 100000 in
theorem joinMates_law (w : World) (a0 : Option Addr) (c0 : Nat) (l0 : List Int) (hv0 : IS w (.slice a0 l0.length c0) l0) (a1 : Option Addr) (c1 : Nat) (l1 : List Int) (hv1 : IS w (.slice a1 l1.length c1) l1) (a2 : Option Addr) (c2 : Nat) (l2 : List Int) (hv2 : IS w (.slice a2 l2.length c2) l2) (a3 : Option Addr) (c3 : Nat) (l3 : List Int) (hv3 : IS w (.slice a3 l3.length c3) l3) (out0 : List Int) (hout0 : out0.length ≤ 1048576) (out1 : List Int) (hout1 : out1.length ≤ 1048576) (r2 : Bool)
    (hs : ∀ (v0 : Value) (v1 : Value) (v2 : Value) (v3 : Value) (w : World), IS w v0 l0 → IS w v1 l1 → IS w v2 l2 → IS w v3 l3 → l0.length ≤ 1048576 → l1.length ≤ 1048576 → l2.length ≤ 1048576 → l3.length ≤ 1048576 → Calls Try.prog 39 #[v0, v1, v2, v3] w (Makes2B w out0 out1 r2))
    (hi : ∀ (v0 : Value) (v1 : Value) (v2 : Value) (v3 : Value) (w : World), IS w v0 l0 → IS w v1 l1 → IS w v2 l2 → IS w v3 l3 → l0.length ≤ 1048576 → l1.length ≤ 1048576 → l2.length ≤ 1048576 → l3.length ≤ 1048576 → Calls Try.prog 40 #[v0, v1, v2, v3] w (Makes2B w out0 out1 r2)) :
    Calls Try.prog 11 #[.slice a0 l0.length c0, .slice a1 l1.length c1, .slice a2 l2.length c2, .slice a3 l3.length c3] w (Ret w (.bool true)) := by
  by_cases hl0 : l0.length ≤ 1048576
  · skip
    by_cases hl1 : l1.length ≤ 1048576
    · skip
      by_cases hl2 : l2.length ≤ 1048576
      · skip
        by_cases hl3 : l3.length ≤ 1048576
        · skip
          exact joinMates_walk w a0 c0 l0 hl0 hv0 a1 c1 l1 hl1 hv1 a2 c2 l2 hl2 hv2 a3 c3 l3 hl3 hv3 out0 hout0 out1 hout1 r2 (fun v0 v1 v2 v3 w h0 h1 h2 h3 => hs v0 v1 v2 v3 w h0 h1 h2 h3 hl0 hl1 hl2 hl3) (fun v0 v1 v2 v3 w h0 h1 h2 h3 => hi v0 v1 v2 v3 w h0 h1 h2 h3 hl0 hl1 hl2 hl3)
        · clear hs hi
          go_enter Try.func11, Try.ntmps11
          go_wp2_with fail
          go_returns
          exact ⟨rfl, by go_grown⟩
      · clear hs hi
        go_enter Try.func11, Try.ntmps11
        go_wp2_with fail
        go_returns
        exact ⟨rfl, by go_grown⟩
    · clear hs hi
      go_enter Try.func11, Try.ntmps11
      go_wp2_with fail
      go_returns
      exact ⟨rfl, by go_grown⟩
  · clear hs hi
    go_enter Try.func11, Try.ntmps11
    go_wp2_with fail
    go_returns
    exact ⟨rfl, by go_grown⟩
end Go.Proofs.Ytodgalflngfnpaa
