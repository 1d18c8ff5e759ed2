/- The walk of the law FnExactGatherOf: out of the contracts of the two functions. -/
import Derived.Test.YtapmehgdnofgnabRwL
import Derived.Test.YtapmehgdnofgnabSp
import Derived.Test.YtapmehgdnofgnabQin
namespace Go.Proofs.Ytapmehgdnofgnab
set_option maxRecDepth 100000
open Go.RowKit

set_option maxRecDepth 100000 in
set_option maxHeartbeats 4000000 in
theorem gatherOf_walk (w : World) (a0 : Option Addr) (c0 : Nat) (l0 : List (List Int)) (hl0 : sz2 l0 ≤ 1048576) (hv0 : IR w (.slice a0 l0.length c0) l0) (a1 : Option Addr) (c1 : Nat) (l1 : List (Int × Int)) (hl1 : sz2 l0 + l1.length ≤ 1048576) (hv1 : IG w (.slice a1 l1.length c1) l1) (out0 : List (Int × Int)) (hout0 : out0.length ≤ 1048576) (r1 : Bool)
    (hs : ∀ (v0 : Value) (v1 : Value) (w : World), IR w v0 l0 → capOk v0 → IG w v1 l1 → Calls Try.prog 18 #[v0, v1] w (MakesGB w out0 r1))
    (hi : ∀ (v0 : Value) (v1 : Value) (w : World), IR w v0 l0 → IG w v1 l1 → Calls Try.prog 20 #[v0, v1] w (MakesGB w out0 r1)) :
    Calls Try.prog 4 #[.slice a0 l0.length c0, .slice a1 l1.length c1] w (Ret w (.bool true)) := by
  have HS := Lib.hid hs
  have HI := Lib.hid hi
  clear hs hi
  have tz0 := tot_le_sz l0
  have hB0 : Below w.heap.size w w := Below.refl _ _
  go_enter Try.func4, Try.ntmps4
  go_wp2_with fail
  refine (szIntSS_yes _ l0 _ _ hv0 (by omega) (by omega)).mono ?_
  rintro e w1 ⟨rfl, hb1⟩
  have hB1 := joins hB0 hb1
  go_wp2_with fail
  refine (szGaussS_yes _ l1 _ _ (hv1.below hB1) (by omega) (by omega)).mono ?_
  rintro e w2 ⟨rfl, hb2⟩
  have hB2 := joins hB1 hb2
  go_wp2_with fail
  refine (toIntSS_any _ l0 _ (hv0.below hB2) (by omega)).mono ?_
  rintro e w3 ⟨y3, rfl, ho3, hb3⟩
  have hB3 := joins hB2 hb3
  have o3_y3 := OM.of w2.heap.size ho3 (by first | exact Nat.le_refl _ | (simp only [World.size_alloc]; omega))
  have lo_y3 : ∀ k, born w2.heap.size w3.heap.size k → w2.heap.size ≤ k := fun k hk => hk.1
  have hi_y3 := o3_y3.hi
  go_wp2_with fail
  refine (toGaussS_any _ l1 _ (hv1.below hB3) (by omega)).mono ?_
  rintro e w4 ⟨y4, rfl, ho4, hb4⟩
  have hB4 := joins hB3 hb4
  have o4_y3 := (o3_y3).below hb4
  have o4_y4 := OG.of ho4
  have lo_y4 : ∀ k, y4.ownBlock = some k → w3.heap.size ≤ k := fun k hk => by have l_ := (ho4.lt k hk).1; (try simp only [World.size_alloc] at l_); omega
  have hi_y4 := o4_y4.hi
  go_wp2_with fail
  refine (HS.out _ _ _ (o4_y3).is (OwnR.capOk ho3) (o4_y4).is).mono ?_
  rintro e w5 ⟨y5, rfl, ho5, hb5⟩
  have hB5 := joins hB4 hb5
  have o5_y5 := OG.of ho5
  have lo_y5 : ∀ k, y5.ownBlock = some k → w4.heap.size ≤ k := fun k hk => by have l_ := (ho5.lt k hk).1; (try simp only [World.size_alloc] at l_); omega
  have hi_y5 := o5_y5.hi
  go_wp2_with fail
  refine (toIntSS_any _ l0 _ (hv0.below hB5) (by omega)).mono ?_
  rintro e w6 ⟨y6, rfl, ho6, hb6⟩
  have hB6 := joins hB5 hb6
  have o6_y5 := (o5_y5).below hb6
  have o6_y6 := OM.of w5.heap.size ho6 (by first | exact Nat.le_refl _ | (simp only [World.size_alloc]; omega))
  have lo_y6 : ∀ k, born w5.heap.size w6.heap.size k → w5.heap.size ≤ k := fun k hk => hk.1
  have hi_y6 := o6_y6.hi
  go_wp2_with fail
  refine (toGaussS_any _ l1 _ (hv1.below hB6) (by omega)).mono ?_
  rintro e w7 ⟨y7, rfl, ho7, hb7⟩
  have hB7 := joins hB6 hb7
  have o7_y5 := (o6_y5).below hb7
  have o7_y6 := (o6_y6).below hb7
  have o7_y7 := OG.of ho7
  have lo_y7 : ∀ k, y7.ownBlock = some k → w6.heap.size ≤ k := fun k hk => by have l_ := (ho7.lt k hk).1; (try simp only [World.size_alloc] at l_); omega
  have hi_y7 := o7_y7.hi
  go_wp2_with fail
  refine (HI.out _ _ _ (o7_y6).is (o7_y7).is).mono ?_
  rintro e w8 ⟨y8, rfl, ho8, hb8⟩
  have hB8 := joins hB7 hb8
  have o8_y5 := (o7_y5).below hb8
  have o8_y6 := (o7_y6).below hb8
  have o8_y7 := (o7_y7).below hb8
  have o8_y8 := OG.of ho8
  have lo_y8 : ∀ k, y8.ownBlock = some k → w7.heap.size ≤ k := fun k hk => by have l_ := (ho8.lt k hk).1; (try simp only [World.size_alloc] at l_); omega
  have hi_y8 := o8_y8.hi
  go_wp2_with fail
  refine (eqGaussS_same _ _ out0 _ (o8_y8).is (o8_y5).is).mono ?_
  rintro e w9 ⟨rfl, hb9⟩
  have hB9 := joins hB8 hb9
  have o9_y5 := (o8_y5).below hb9
  have o9_y6 := (o8_y6).below hb9
  have o9_y7 := (o8_y7).below hb9
  have o9_y8 := (o8_y8).below hb9
  go_wp2_with fail
  refine (toIntSS_any _ l0 _ (hv0.below hB9) (by omega)).mono ?_
  rintro e w10 ⟨y10, rfl, ho10, hb10⟩
  have hB10 := joins hB9 hb10
  have o10_y5 := (o9_y5).below hb10
  have o10_y6 := (o9_y6).below hb10
  have o10_y7 := (o9_y7).below hb10
  have o10_y8 := (o9_y8).below hb10
  have o10_y10 := OM.of w9.heap.size ho10 (by first | exact Nat.le_refl _ | (simp only [World.size_alloc]; omega))
  have lo_y10 : ∀ k, born w9.heap.size w10.heap.size k → w9.heap.size ≤ k := fun k hk => hk.1
  have hi_y10 := o10_y10.hi
  go_wp2_with fail
  refine (eqIntSS_same _ _ l0 _ (o10_y6).is (o10_y10).is).mono ?_
  rintro e w11 ⟨rfl, hb11⟩
  have hB11 := joins hB10 hb11
  have o11_y5 := (o10_y5).below hb11
  have o11_y6 := (o10_y6).below hb11
  have o11_y7 := (o10_y7).below hb11
  have o11_y8 := (o10_y8).below hb11
  go_wp2_with fail
  refine (toGaussS_any _ l1 _ (hv1.below hB11) (by omega)).mono ?_
  rintro e w12 ⟨y12, rfl, ho12, hb12⟩
  have hB12 := joins hB11 hb12
  have o12_y5 := (o11_y5).below hb12
  have o12_y6 := (o11_y6).below hb12
  have o12_y7 := (o11_y7).below hb12
  have o12_y8 := (o11_y8).below hb12
  have o12_y12 := OG.of ho12
  have lo_y12 : ∀ k, y12.ownBlock = some k → w11.heap.size ≤ k := fun k hk => by have l_ := (ho12.lt k hk).1; (try simp only [World.size_alloc] at l_); omega
  have hi_y12 := o12_y12.hi
  go_wp2_with fail
  refine (eqGaussS_same _ _ l1 _ (o12_y7).is (o12_y12).is).mono ?_
  rintro e w13 ⟨rfl, hb13⟩
  have hB13 := joins hB12 hb13
  have o13_y5 := (o12_y5).below hb13
  have o13_y6 := (o12_y6).below hb13
  have o13_y7 := (o12_y7).below hb13
  have o13_y8 := (o12_y8).below hb13
  go_wp2_with fail
  refine (o13_y6.mark (1) (by omega) (by omega)).mono ?_
  rintro e w14 ⟨rfl, o14_y6, ht14⟩
  have hB14 := tjoin hB13 ht14 (fun k hk => by have l_ := lo_y6 k hk; have s1_ := hb1.size; (try simp only [World.size_alloc] at s1_); have s2_ := hb2.size; (try simp only [World.size_alloc] at s2_); have s3_ := hb3.size; (try simp only [World.size_alloc] at s3_); have s4_ := hb4.size; (try simp only [World.size_alloc] at s4_); have s5_ := hb5.size; (try simp only [World.size_alloc] at s5_); omega)
  have o14_y5 := o13_y5.touch ht14 (fun k h1 h2 => by have u_ := hi_y5 k h1; have l_ := lo_y6 k h2; omega)
  have o14_y7 := o13_y7.touch ht14 (fun k h1 h2 => by have u_ := hi_y6 k h2; have l_ := lo_y7 k h1; omega)
  have o14_y8 := o13_y8.touch ht14 (fun k h1 h2 => by have u_ := hi_y6 k h2; have l_ := lo_y8 k h1; have s7_ := hb7.size; (try simp only [World.size_alloc] at s7_); omega)
  go_wp2_with fail
  refine (o14_y7.mark (1 + tot l0) (by omega) (by omega)).mono ?_
  rintro e w15 ⟨rfl, o15_y7, ht15⟩
  have hB15 := tjoin hB14 ht15 (fun k hk => by have l_ := lo_y7 k hk; have s1_ := hb1.size; (try simp only [World.size_alloc] at s1_); have s2_ := hb2.size; (try simp only [World.size_alloc] at s2_); have s3_ := hb3.size; (try simp only [World.size_alloc] at s3_); have s4_ := hb4.size; (try simp only [World.size_alloc] at s4_); have s5_ := hb5.size; (try simp only [World.size_alloc] at s5_); have s6_ := hb6.size; (try simp only [World.size_alloc] at s6_); omega)
  have o15_y5 := o14_y5.touch ht15 (fun k h1 h2 => by have u_ := hi_y5 k h1; have l_ := lo_y7 k h2; have s6_ := hb6.size; (try simp only [World.size_alloc] at s6_); omega)
  have o15_y8 := o14_y8.touch ht15 (fun k h1 h2 => by have u_ := hi_y7 k h2; have l_ := lo_y8 k h1; omega)
  go_wp2_with fail
  refine (eqGaussS_same _ _ out0 _ (o15_y8).is (o15_y5).is).mono ?_
  rintro e w16 ⟨rfl, hb16⟩
  have hB16 := joins hB15 hb16
  have o16_y5 := (o15_y5).below hb16
  have o16_y8 := (o15_y8).below hb16
  go_wp2_with fail
  refine (o16_y8.mark (1) (by omega) (by omega)).mono ?_
  rintro e w17 ⟨rfl, o17_y8, ht17⟩
  have hB17 := tjoin hB16 ht17 (fun k hk => by have l_ := lo_y8 k hk; have s1_ := hb1.size; (try simp only [World.size_alloc] at s1_); have s2_ := hb2.size; (try simp only [World.size_alloc] at s2_); have s3_ := hb3.size; (try simp only [World.size_alloc] at s3_); have s4_ := hb4.size; (try simp only [World.size_alloc] at s4_); have s5_ := hb5.size; (try simp only [World.size_alloc] at s5_); have s6_ := hb6.size; (try simp only [World.size_alloc] at s6_); have s7_ := hb7.size; (try simp only [World.size_alloc] at s7_); omega)
  have o17_y5 := o16_y5.touch ht17 (fun k h1 h2 => by have u_ := hi_y5 k h1; have l_ := lo_y8 k h2; have s6_ := hb6.size; (try simp only [World.size_alloc] at s6_); have s7_ := hb7.size; (try simp only [World.size_alloc] at s7_); omega)
  go_wp2_with fail
  refine (o17_y8.held (by omega) (by omega)).mono ?_
  rintro e w18 ⟨rfl, hb18⟩
  have hB18 := joins hB17 hb18
  have o18_y5 := (o17_y5).below hb18
  have o18_y8 := (o17_y8).below hb18
  go_wp2_with fail
  refine (toIntSS_any _ l0 _ (hv0.below hB18) (by omega)).mono ?_
  rintro e w19 ⟨y19, rfl, ho19, hb19⟩
  have hB19 := joins hB18 hb19
  have o19_y5 := (o18_y5).below hb19
  have o19_y8 := (o18_y8).below hb19
  have o19_y19 := OM.of w18.heap.size ho19 (by first | exact Nat.le_refl _ | (simp only [World.size_alloc]; omega))
  have lo_y19 : ∀ k, born w18.heap.size w19.heap.size k → w18.heap.size ≤ k := fun k hk => hk.1
  have hi_y19 := o19_y19.hi
  go_wp2_with fail
  refine (toGaussS_any _ l1 _ (hv1.below hB19) (by omega)).mono ?_
  rintro e w20 ⟨y20, rfl, ho20, hb20⟩
  have hB20 := joins hB19 hb20
  have o20_y5 := (o19_y5).below hb20
  have o20_y8 := (o19_y8).below hb20
  have o20_y19 := (o19_y19).below hb20
  have o20_y20 := OG.of ho20
  have lo_y20 : ∀ k, y20.ownBlock = some k → w19.heap.size ≤ k := fun k hk => by have l_ := (ho20.lt k hk).1; (try simp only [World.size_alloc] at l_); omega
  have hi_y20 := o20_y20.hi
  go_wp2_with fail
  refine (HI.out _ _ _ (o20_y19).is (o20_y20).is).mono ?_
  rintro e w21 ⟨y21, rfl, ho21, hb21⟩
  have hB21 := joins hB20 hb21
  have o21_y5 := (o20_y5).below hb21
  have o21_y8 := (o20_y8).below hb21
  have o21_y21 := OG.of ho21
  have lo_y21 : ∀ k, y21.ownBlock = some k → w20.heap.size ≤ k := fun k hk => by have l_ := (ho21.lt k hk).1; (try simp only [World.size_alloc] at l_); omega
  have hi_y21 := o21_y21.hi
  go_wp2_with fail
  refine (eqGaussS_same _ _ out0 _ (o21_y21).is (o21_y5).is).mono ?_
  rintro e w22 ⟨rfl, hb22⟩
  have hB22 := joins hB21 hb22
  have o22_y8 := (o21_y8).below hb22
  go_wp2_with fail
  refine (o22_y8.held (by omega) (by omega)).mono ?_
  rintro e w23 ⟨rfl, hb23⟩
  have hB23 := joins hB22 hb23
  go_wp2_with fail
  go_returns
  exact ⟨rfl, hB23⟩

set_option maxRecDepth 100000 in
theorem gatherOf_law (w : World) (a0 : Option Addr) (c0 : Nat) (l0 : List (List Int)) (hv0 : IR w (.slice a0 l0.length c0) l0) (a1 : Option Addr) (c1 : Nat) (l1 : List (Int × Int)) (hv1 : IG w (.slice a1 l1.length c1) l1) (out0 : List (Int × Int)) (hout0 : out0.length ≤ 1048576) (r1 : Bool)
    (hs : ∀ (v0 : Value) (v1 : Value) (w : World), IR w v0 l0 → capOk v0 → IG w v1 l1 → sz2 l0 ≤ 1048576 → sz2 l0 + l1.length ≤ 1048576 → Calls Try.prog 18 #[v0, v1] w (MakesGB w out0 r1))
    (hi : ∀ (v0 : Value) (v1 : Value) (w : World), IR w v0 l0 → IG w v1 l1 → sz2 l0 ≤ 1048576 → sz2 l0 + l1.length ≤ 1048576 → Calls Try.prog 20 #[v0, v1] w (MakesGB w out0 r1)) :
    Calls Try.prog 4 #[.slice a0 l0.length c0, .slice a1 l1.length c1] w (Ret w (.bool true)) := by
  by_cases hl0 : sz2 l0 ≤ 1048576
  · skip
    by_cases hl1 : sz2 l0 + l1.length ≤ 1048576
    · skip
      exact gatherOf_walk w a0 c0 l0 hl0 hv0 a1 c1 l1 hl1 hv1 out0 hout0 r1 (fun v0 v1 w h0 hcp h1 => hs v0 v1 w h0 hcp h1 hl0 hl1) (fun v0 v1 w h0 h1 => hi v0 v1 w h0 h1 hl0 hl1)
    · clear hs hi
      go_enter Try.func4, Try.ntmps4
      go_wp2_with fail
      refine (szIntSS_yes _ l0 _ _ hv0 (by omega) (by omega)).mono ?_
      rintro e u0 ⟨rfl, hb0⟩
      go_wp2_with fail
      refine (szGaussS_no _ l1 _ _ (hv1.below hb0) (by omega) (by omega) (by omega)).mono ?_
      rintro e u1 ⟨rfl, hb1⟩
      have hc1 := joins hb0 hb1
      go_wp2_with fail
      go_returns
      exact ⟨rfl, hc1⟩
  · clear hs hi
    go_enter Try.func4, Try.ntmps4
    go_wp2_with fail
    refine (szIntSS_no _ l0 _ _ hv0 (by omega) (by omega) (by omega)).mono ?_
    rintro e u0 ⟨rfl, hb0⟩
    go_wp2_with fail
    go_returns
    exact ⟨rfl, hb0⟩
end Go.Proofs.Ytapmehgdnofgnab
