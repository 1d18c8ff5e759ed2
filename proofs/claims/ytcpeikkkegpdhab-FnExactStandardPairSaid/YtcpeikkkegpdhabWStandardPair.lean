/- The walk of the law FnExactStandardPair: out of the contracts of the two functions. -/
import Derived.Test.YtcpeikkkegpdhabGsn
namespace Go.Proofs.Ytcpeikkkegpdhab
set_option maxRecDepth 100000
open Go.RowKit

set_option maxRecDepth 100000 in
set_option maxHeartbeats 4000000 in
theorem standardPair_walk (w : World) (a0 : Option Addr) (c0 : Nat) (l0 : List Int) (hl0 : l0.length ≤ 1048576) (hv0 : IS w (.slice a0 l0.length c0) l0) (a1 : Option Addr) (c1 : Nat) (l1 : List Int) (hl1 : l1.length ≤ 1048576) (hv1 : IS w (.slice a1 l1.length c1) l1) (x2 : Int) (out0 : List Int) (hout0 : out0.length ≤ 1048576) (out1 : List Int) (hout1 : out1.length ≤ 1048576) (r2 : Bool)
    (hs : ∀ (v0 : Value) (v1 : Value) (w : World), IS w v0 l0 → IS w v1 l1 → Calls Try.prog 4 #[v0, v1, .int .i64 x2] w (Makes2B w out0 out1 r2))
    (hi : ∀ (v0 : Value) (v1 : Value) (w : World), IS w v0 l0 → IS w v1 l1 → Calls Try.prog 6 #[v0, v1, .int .i64 x2] w (Makes2B w out0 out1 r2)) :
    Calls Try.prog 3 #[.slice a0 l0.length c0, .slice a1 l1.length c1, .int .i64 x2] w (Ret w (.bool true)) := by
  have HS := Lib.hid hs
  have HI := Lib.hid hi
  clear hs hi
  have hB0 : Below w.heap.size w w := Below.refl _ _
  go_enter Try.func3, Try.ntmps3
  go_wp2_with fail
  refine (toIntS_any _ l0 _ hv0 hl0).mono ?_
  rintro e w1 ⟨y1, rfl, ho1, hb1⟩
  have hB1 := joins hB0 hb1
  have o1_y1 := OS.of ho1
  have lo_y1 : ∀ k, y1.ownBlock = some k → w.heap.size ≤ k := fun k hk => by have l_ := (ho1.lt k hk).1; (try simp only [World.size_alloc] at l_); omega
  have hi_y1 := o1_y1.hi
  go_wp2_with fail
  refine (toIntS_any _ l1 _ (hv1.below hB1) hl1).mono ?_
  rintro e w2 ⟨y2, rfl, ho2, hb2⟩
  have hB2 := joins hB1 hb2
  have o2_y1 := (o1_y1).below hb2
  have o2_y2 := OS.of ho2
  have lo_y2 : ∀ k, y2.ownBlock = some k → w1.heap.size ≤ k := fun k hk => by have l_ := (ho2.lt k hk).1; (try simp only [World.size_alloc] at l_); omega
  have hi_y2 := o2_y2.hi
  go_wp2_with fail
  refine (HS.out _ _ _ (o2_y1).is (o2_y2).is).mono ?_
  rintro e w3 ⟨y3a, y3b, rfl, ho3a, ho3b, ap3, hb3⟩
  have hB3 := joins hB2 hb3
  have o3_y3a := OS.of ho3a
  have lo_y3a : ∀ k, y3a.ownBlock = some k → w2.heap.size ≤ k := fun k hk => by have l_ := (ho3a.lt k hk).1; (try simp only [World.size_alloc] at l_); omega
  have hi_y3a := o3_y3a.hi
  have o3_y3b := OS.of ho3b
  have lo_y3b : ∀ k, y3b.ownBlock = some k → w2.heap.size ≤ k := fun k hk => by have l_ := (ho3b.lt k hk).1; (try simp only [World.size_alloc] at l_); omega
  have hi_y3b := o3_y3b.hi
  go_wp2_with fail
  refine (toIntS_any _ l0 _ (hv0.below hB3) hl0).mono ?_
  rintro e w4 ⟨y4, rfl, ho4, hb4⟩
  have hB4 := joins hB3 hb4
  have o4_y3a := (o3_y3a).below hb4
  have o4_y3b := (o3_y3b).below hb4
  have o4_y4 := OS.of ho4
  have lo_y4 : ∀ k, y4.ownBlock = some k → w3.heap.size ≤ k := fun k hk => by have l_ := (ho4.lt k hk).1; (try simp only [World.size_alloc] at l_); omega
  have hi_y4 := o4_y4.hi
  go_wp2_with fail
  refine (toIntS_any _ l1 _ (hv1.below hB4) hl1).mono ?_
  rintro e w5 ⟨y5, rfl, ho5, hb5⟩
  have hB5 := joins hB4 hb5
  have o5_y3a := (o4_y3a).below hb5
  have o5_y3b := (o4_y3b).below hb5
  have o5_y4 := (o4_y4).below hb5
  have o5_y5 := OS.of ho5
  have lo_y5 : ∀ k, y5.ownBlock = some k → w4.heap.size ≤ k := fun k hk => by have l_ := (ho5.lt k hk).1; (try simp only [World.size_alloc] at l_); omega
  have hi_y5 := o5_y5.hi
  go_wp2_with fail
  refine (HI.out _ _ _ (o5_y4).is (o5_y5).is).mono ?_
  rintro e w6 ⟨y6a, y6b, rfl, ho6a, ho6b, ap6, hb6⟩
  have hB6 := joins hB5 hb6
  have o6_y3a := (o5_y3a).below hb6
  have o6_y3b := (o5_y3b).below hb6
  have o6_y4 := (o5_y4).below hb6
  have o6_y5 := (o5_y5).below hb6
  have o6_y6a := OS.of ho6a
  have lo_y6a : ∀ k, y6a.ownBlock = some k → w5.heap.size ≤ k := fun k hk => by have l_ := (ho6a.lt k hk).1; (try simp only [World.size_alloc] at l_); omega
  have hi_y6a := o6_y6a.hi
  have o6_y6b := OS.of ho6b
  have lo_y6b : ∀ k, y6b.ownBlock = some k → w5.heap.size ≤ k := fun k hk => by have l_ := (ho6b.lt k hk).1; (try simp only [World.size_alloc] at l_); omega
  have hi_y6b := o6_y6b.hi
  go_wp2_with fail
  refine (eqIntS_same _ _ out0 _ (o6_y6a).is (o6_y3a).is).mono ?_
  rintro e w7 ⟨rfl, hb7⟩
  have hB7 := joins hB6 hb7
  have o7_y3a := (o6_y3a).below hb7
  have o7_y3b := (o6_y3b).below hb7
  have o7_y4 := (o6_y4).below hb7
  have o7_y5 := (o6_y5).below hb7
  have o7_y6a := (o6_y6a).below hb7
  have o7_y6b := (o6_y6b).below hb7
  go_wp2_with fail
  refine (eqIntS_same _ _ out1 _ (o7_y6b).is (o7_y3b).is).mono ?_
  rintro e w8 ⟨rfl, hb8⟩
  have hB8 := joins hB7 hb8
  have o8_y3a := (o7_y3a).below hb8
  have o8_y3b := (o7_y3b).below hb8
  have o8_y4 := (o7_y4).below hb8
  have o8_y5 := (o7_y5).below hb8
  have o8_y6a := (o7_y6a).below hb8
  have o8_y6b := (o7_y6b).below hb8
  go_wp2_with fail
  refine (toIntS_any _ l0 _ (hv0.below hB8) hl0).mono ?_
  rintro e w9 ⟨y9, rfl, ho9, hb9⟩
  have hB9 := joins hB8 hb9
  have o9_y3a := (o8_y3a).below hb9
  have o9_y3b := (o8_y3b).below hb9
  have o9_y4 := (o8_y4).below hb9
  have o9_y5 := (o8_y5).below hb9
  have o9_y6a := (o8_y6a).below hb9
  have o9_y6b := (o8_y6b).below hb9
  have o9_y9 := OS.of ho9
  have lo_y9 : ∀ k, y9.ownBlock = some k → w8.heap.size ≤ k := fun k hk => by have l_ := (ho9.lt k hk).1; (try simp only [World.size_alloc] at l_); omega
  have hi_y9 := o9_y9.hi
  go_wp2_with fail
  refine (eqIntS_same _ _ l0 _ (o9_y4).is (o9_y9).is).mono ?_
  rintro e w10 ⟨rfl, hb10⟩
  have hB10 := joins hB9 hb10
  have o10_y3a := (o9_y3a).below hb10
  have o10_y3b := (o9_y3b).below hb10
  have o10_y4 := (o9_y4).below hb10
  have o10_y5 := (o9_y5).below hb10
  have o10_y6a := (o9_y6a).below hb10
  have o10_y6b := (o9_y6b).below hb10
  go_wp2_with fail
  refine (toIntS_any _ l1 _ (hv1.below hB10) hl1).mono ?_
  rintro e w11 ⟨y11, rfl, ho11, hb11⟩
  have hB11 := joins hB10 hb11
  have o11_y3a := (o10_y3a).below hb11
  have o11_y3b := (o10_y3b).below hb11
  have o11_y4 := (o10_y4).below hb11
  have o11_y5 := (o10_y5).below hb11
  have o11_y6a := (o10_y6a).below hb11
  have o11_y6b := (o10_y6b).below hb11
  have o11_y11 := OS.of ho11
  have lo_y11 : ∀ k, y11.ownBlock = some k → w10.heap.size ≤ k := fun k hk => by have l_ := (ho11.lt k hk).1; (try simp only [World.size_alloc] at l_); omega
  have hi_y11 := o11_y11.hi
  go_wp2_with fail
  refine (eqIntS_same _ _ l1 _ (o11_y5).is (o11_y11).is).mono ?_
  rintro e w12 ⟨rfl, hb12⟩
  have hB12 := joins hB11 hb12
  have o12_y3a := (o11_y3a).below hb12
  have o12_y3b := (o11_y3b).below hb12
  have o12_y4 := (o11_y4).below hb12
  have o12_y5 := (o11_y5).below hb12
  have o12_y6a := (o11_y6a).below hb12
  have o12_y6b := (o11_y6b).below hb12
  go_wp2_with fail
  refine (o12_y4.mark (1) (by omega) (by omega)).mono ?_
  rintro e w13 ⟨rfl, o13_y4, ht13⟩
  have hB13 := tjoin hB12 ht13 (fun k hk => by have l_ := lo_y4 k hk; have s1_ := hb1.size; (try simp only [World.size_alloc] at s1_); have s2_ := hb2.size; (try simp only [World.size_alloc] at s2_); have s3_ := hb3.size; (try simp only [World.size_alloc] at s3_); omega)
  have o13_y3a := o12_y3a.touch ht13 (fun k h1 h2 => by have u_ := hi_y3a k h1; have l_ := lo_y4 k h2; omega)
  have o13_y3b := o12_y3b.touch ht13 (fun k h1 h2 => by have u_ := hi_y3b k h1; have l_ := lo_y4 k h2; omega)
  have o13_y5 := o12_y5.touch ht13 (fun k h1 h2 => by have u_ := hi_y4 k h2; have l_ := lo_y5 k h1; omega)
  have o13_y6a := o12_y6a.touch ht13 (fun k h1 h2 => by have u_ := hi_y4 k h2; have l_ := lo_y6a k h1; have s5_ := hb5.size; (try simp only [World.size_alloc] at s5_); omega)
  have o13_y6b := o12_y6b.touch ht13 (fun k h1 h2 => by have u_ := hi_y4 k h2; have l_ := lo_y6b k h1; have s5_ := hb5.size; (try simp only [World.size_alloc] at s5_); omega)
  go_wp2_with fail
  refine (o13_y5.mark (1 + l0.length) (by omega) (by omega)).mono ?_
  rintro e w14 ⟨rfl, o14_y5, ht14⟩
  have hB14 := tjoin hB13 ht14 (fun k hk => by have l_ := lo_y5 k hk; have s1_ := hb1.size; (try simp only [World.size_alloc] at s1_); have s2_ := hb2.size; (try simp only [World.size_alloc] at s2_); have s3_ := hb3.size; (try simp only [World.size_alloc] at s3_); have s4_ := hb4.size; (try simp only [World.size_alloc] at s4_); omega)
  have o14_y3a := o13_y3a.touch ht14 (fun k h1 h2 => by have u_ := hi_y3a k h1; have l_ := lo_y5 k h2; have s4_ := hb4.size; (try simp only [World.size_alloc] at s4_); omega)
  have o14_y3b := o13_y3b.touch ht14 (fun k h1 h2 => by have u_ := hi_y3b k h1; have l_ := lo_y5 k h2; have s4_ := hb4.size; (try simp only [World.size_alloc] at s4_); omega)
  have o14_y6a := o13_y6a.touch ht14 (fun k h1 h2 => by have u_ := hi_y5 k h2; have l_ := lo_y6a k h1; omega)
  have o14_y6b := o13_y6b.touch ht14 (fun k h1 h2 => by have u_ := hi_y5 k h2; have l_ := lo_y6b k h1; omega)
  go_wp2_with fail
  refine (eqIntS_same _ _ out0 _ (o14_y6a).is (o14_y3a).is).mono ?_
  rintro e w15 ⟨rfl, hb15⟩
  have hB15 := joins hB14 hb15
  have o15_y3a := (o14_y3a).below hb15
  have o15_y3b := (o14_y3b).below hb15
  have o15_y6a := (o14_y6a).below hb15
  have o15_y6b := (o14_y6b).below hb15
  go_wp2_with fail
  refine (eqIntS_same _ _ out1 _ (o15_y6b).is (o15_y3b).is).mono ?_
  rintro e w16 ⟨rfl, hb16⟩
  have hB16 := joins hB15 hb16
  have o16_y3a := (o15_y3a).below hb16
  have o16_y3b := (o15_y3b).below hb16
  have o16_y6a := (o15_y6a).below hb16
  have o16_y6b := (o15_y6b).below hb16
  go_wp2_with fail
  refine (o16_y6a.mark (1) (by omega) (by omega)).mono ?_
  rintro e w17 ⟨rfl, o17_y6a, ht17⟩
  have hB17 := tjoin hB16 ht17 (fun k hk => by have l_ := lo_y6a k hk; have s1_ := hb1.size; (try simp only [World.size_alloc] at s1_); have s2_ := hb2.size; (try simp only [World.size_alloc] at s2_); have s3_ := hb3.size; (try simp only [World.size_alloc] at s3_); have s4_ := hb4.size; (try simp only [World.size_alloc] at s4_); have s5_ := hb5.size; (try simp only [World.size_alloc] at s5_); omega)
  have o17_y3a := o16_y3a.touch ht17 (fun k h1 h2 => by have u_ := hi_y3a k h1; have l_ := lo_y6a k h2; have s4_ := hb4.size; (try simp only [World.size_alloc] at s4_); have s5_ := hb5.size; (try simp only [World.size_alloc] at s5_); omega)
  have o17_y3b := o16_y3b.touch ht17 (fun k h1 h2 => by have u_ := hi_y3b k h1; have l_ := lo_y6a k h2; have s4_ := hb4.size; (try simp only [World.size_alloc] at s4_); have s5_ := hb5.size; (try simp only [World.size_alloc] at s5_); omega)
  have o17_y6b := o16_y6b.touch ht17 (fun k h1 h2 => ap6 k h2 h1)
  go_wp2_with fail
  refine (o17_y6b.mark (1 + out0.length) (by omega) (by omega)).mono ?_
  rintro e w18 ⟨rfl, o18_y6b, ht18⟩
  have hB18 := tjoin hB17 ht18 (fun k hk => by have l_ := lo_y6b k hk; have s1_ := hb1.size; (try simp only [World.size_alloc] at s1_); have s2_ := hb2.size; (try simp only [World.size_alloc] at s2_); have s3_ := hb3.size; (try simp only [World.size_alloc] at s3_); have s4_ := hb4.size; (try simp only [World.size_alloc] at s4_); have s5_ := hb5.size; (try simp only [World.size_alloc] at s5_); omega)
  have o18_y3a := o17_y3a.touch ht18 (fun k h1 h2 => by have u_ := hi_y3a k h1; have l_ := lo_y6b k h2; have s4_ := hb4.size; (try simp only [World.size_alloc] at s4_); have s5_ := hb5.size; (try simp only [World.size_alloc] at s5_); omega)
  have o18_y3b := o17_y3b.touch ht18 (fun k h1 h2 => by have u_ := hi_y3b k h1; have l_ := lo_y6b k h2; have s4_ := hb4.size; (try simp only [World.size_alloc] at s4_); have s5_ := hb5.size; (try simp only [World.size_alloc] at s5_); omega)
  have o18_y6a := o17_y6a.touch ht18 (fun k h1 h2 => ap6 k h1 h2)
  go_wp2_with fail
  refine (o18_y6a.held (by omega) (by omega)).mono ?_
  rintro e w19 ⟨rfl, hb19⟩
  have hB19 := joins hB18 hb19
  have o19_y3a := (o18_y3a).below hb19
  have o19_y3b := (o18_y3b).below hb19
  have o19_y6a := (o18_y6a).below hb19
  have o19_y6b := (o18_y6b).below hb19
  go_wp2_with fail
  refine (o19_y6b.held (by omega) (by omega)).mono ?_
  rintro e w20 ⟨rfl, hb20⟩
  have hB20 := joins hB19 hb20
  have o20_y3a := (o19_y3a).below hb20
  have o20_y3b := (o19_y3b).below hb20
  have o20_y6a := (o19_y6a).below hb20
  have o20_y6b := (o19_y6b).below hb20
  go_wp2_with fail
  refine (toIntS_any _ l0 _ (hv0.below hB20) hl0).mono ?_
  rintro e w21 ⟨y21, rfl, ho21, hb21⟩
  have hB21 := joins hB20 hb21
  have o21_y3a := (o20_y3a).below hb21
  have o21_y3b := (o20_y3b).below hb21
  have o21_y6a := (o20_y6a).below hb21
  have o21_y6b := (o20_y6b).below hb21
  have o21_y21 := OS.of ho21
  have lo_y21 : ∀ k, y21.ownBlock = some k → w20.heap.size ≤ k := fun k hk => by have l_ := (ho21.lt k hk).1; (try simp only [World.size_alloc] at l_); omega
  have hi_y21 := o21_y21.hi
  go_wp2_with fail
  refine (toIntS_any _ l1 _ (hv1.below hB21) hl1).mono ?_
  rintro e w22 ⟨y22, rfl, ho22, hb22⟩
  have hB22 := joins hB21 hb22
  have o22_y3a := (o21_y3a).below hb22
  have o22_y3b := (o21_y3b).below hb22
  have o22_y6a := (o21_y6a).below hb22
  have o22_y6b := (o21_y6b).below hb22
  have o22_y21 := (o21_y21).below hb22
  have o22_y22 := OS.of ho22
  have lo_y22 : ∀ k, y22.ownBlock = some k → w21.heap.size ≤ k := fun k hk => by have l_ := (ho22.lt k hk).1; (try simp only [World.size_alloc] at l_); omega
  have hi_y22 := o22_y22.hi
  go_wp2_with fail
  refine (HI.out _ _ _ (o22_y21).is (o22_y22).is).mono ?_
  rintro e w23 ⟨y23a, y23b, rfl, ho23a, ho23b, ap23, hb23⟩
  have hB23 := joins hB22 hb23
  have o23_y3a := (o22_y3a).below hb23
  have o23_y3b := (o22_y3b).below hb23
  have o23_y6a := (o22_y6a).below hb23
  have o23_y6b := (o22_y6b).below hb23
  have o23_y23a := OS.of ho23a
  have lo_y23a : ∀ k, y23a.ownBlock = some k → w22.heap.size ≤ k := fun k hk => by have l_ := (ho23a.lt k hk).1; (try simp only [World.size_alloc] at l_); omega
  have hi_y23a := o23_y23a.hi
  have o23_y23b := OS.of ho23b
  have lo_y23b : ∀ k, y23b.ownBlock = some k → w22.heap.size ≤ k := fun k hk => by have l_ := (ho23b.lt k hk).1; (try simp only [World.size_alloc] at l_); omega
  have hi_y23b := o23_y23b.hi
  go_wp2_with fail
  refine (eqIntS_same _ _ out0 _ (o23_y23a).is (o23_y3a).is).mono ?_
  rintro e w24 ⟨rfl, hb24⟩
  have hB24 := joins hB23 hb24
  have o24_y3b := (o23_y3b).below hb24
  have o24_y6a := (o23_y6a).below hb24
  have o24_y6b := (o23_y6b).below hb24
  have o24_y23b := (o23_y23b).below hb24
  go_wp2_with fail
  refine (eqIntS_same _ _ out1 _ (o24_y23b).is (o24_y3b).is).mono ?_
  rintro e w25 ⟨rfl, hb25⟩
  have hB25 := joins hB24 hb25
  have o25_y6a := (o24_y6a).below hb25
  have o25_y6b := (o24_y6b).below hb25
  go_wp2_with fail
  refine (o25_y6a.held (by omega) (by omega)).mono ?_
  rintro e w26 ⟨rfl, hb26⟩
  have hB26 := joins hB25 hb26
  have o26_y6b := (o25_y6b).below hb26
  go_wp2_with fail
  refine (o26_y6b.held (by omega) (by omega)).mono ?_
  rintro e w27 ⟨rfl, hb27⟩
  have hB27 := joins hB26 hb27
  go_wp2_with fail
  go_returns
  exact ⟨rfl, hB27⟩

set_option maxRecDepth 100000 in
theorem standardPair_law (w : World) (a0 : Option Addr) (c0 : Nat) (l0 : List Int) (hv0 : IS w (.slice a0 l0.length c0) l0) (a1 : Option Addr) (c1 : Nat) (l1 : List Int) (hv1 : IS w (.slice a1 l1.length c1) l1) (x2 : Int) (out0 : List Int) (hout0 : out0.length ≤ 1048576) (out1 : List Int) (hout1 : out1.length ≤ 1048576) (r2 : Bool)
    (hs : ∀ (v0 : Value) (v1 : Value) (w : World), IS w v0 l0 → IS w v1 l1 → l0.length ≤ 1048576 → l1.length ≤ 1048576 → Calls Try.prog 4 #[v0, v1, .int .i64 x2] w (Makes2B w out0 out1 r2))
    (hi : ∀ (v0 : Value) (v1 : Value) (w : World), IS w v0 l0 → IS w v1 l1 → l0.length ≤ 1048576 → l1.length ≤ 1048576 → Calls Try.prog 6 #[v0, v1, .int .i64 x2] w (Makes2B w out0 out1 r2)) :
    Calls Try.prog 3 #[.slice a0 l0.length c0, .slice a1 l1.length c1, .int .i64 x2] w (Ret w (.bool true)) := by
  by_cases hl0 : l0.length ≤ 1048576
  · skip
    by_cases hl1 : l1.length ≤ 1048576
    · skip
      exact standardPair_walk w a0 c0 l0 hl0 hv0 a1 c1 l1 hl1 hv1 x2 out0 hout0 out1 hout1 r2 (fun v0 v1 w h0 h1 => hs v0 v1 w h0 h1 hl0 hl1) (fun v0 v1 w h0 h1 => hi v0 v1 w h0 h1 hl0 hl1)
    · clear hs hi
      go_enter Try.func3, Try.ntmps3
      go_wp2_with fail
      go_returns
      exact ⟨rfl, by go_grown⟩
  · clear hs hi
    go_enter Try.func3, Try.ntmps3
    go_wp2_with fail
    go_returns
    exact ⟨rfl, by go_grown⟩
end Go.Proofs.Ytcpeikkkegpdhab
