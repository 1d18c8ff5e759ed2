/- The walk of the law FnExactMoveBetween: out of the contracts of the two functions. -/
import Derived.Test.YtcagiecgbjnefaaGsn
namespace Go.Proofs.Ytcagiecgbjnefaa
set_option maxRecDepth 100000
open Go.RowKit

set_option maxRecDepth 100000 in
set_option maxHeartbeats 4000000 in
theorem moveBetween_walk (w : World) (a0 : Option Addr) (c0 : Nat) (l0 : List Int) (hl0 : l0.length ≤ 1048576) (hv0 : IS w (.slice a0 l0.length c0) l0) (a1 : Option Addr) (c1 : Nat) (l1 : List Int) (hl1 : l1.length ≤ 1048576) (hv1 : IS w (.slice a1 l1.length c1) l1) (out0 : List Int) (hout0 : out0.length ≤ 1048576) (r1 : Bool)
    (hs : ∀ (v0 : Value) (v1 : Value) (w : World), IS w v0 l0 → IS w v1 l1 → Calls Try.prog 20 #[v0, v1] w (MakesB w out0 r1))
    (hi : ∀ (v0 : Value) (v1 : Value) (w : World), IS w v0 l0 → IS w v1 l1 → Calls Try.prog 21 #[v0, v1] w (MakesB w out0 r1)) :
    Calls Try.prog 6 #[.slice a0 l0.length c0, .slice a1 l1.length c1] w (Ret w (.bool true)) := by
  have HS := Lib.hid hs
  have HI := Lib.hid hi
  clear hs hi
  have hB0 : Below w.heap.size w w := Below.refl _ _
  go_enter Try.func6, Try.ntmps6
  go_wp2_with fail
  refine (toIntS_any _ l0 _ hv0 hl0).mono ?_
  rintro e w1 ⟨y1, rfl, ho1, hb1⟩
  have hB1 := joins hB0 hb1
  have o1_y1 := OS.of ho1
  have lo_y1 : ∀ k, y1.ownBlock = some k → w.heap.size ≤ k := fun k hk => by have l_ := (ho1.lt k hk).1; (try simp only [World.size_alloc] at l_); omega
  have hi_y1 := o1_y1.hi
  go_wp2_with fail
  refine (toIntS_any _ l1 _ (hv1.below hB1) hl1).mono ?_
  rintro e w2 ⟨y2, rfl, ho2, hb2⟩
  have hB2 := joins hB1 hb2
  have o2_y1 := (o1_y1).below hb2
  have o2_y2 := OS.of ho2
  have lo_y2 : ∀ k, y2.ownBlock = some k → w1.heap.size ≤ k := fun k hk => by have l_ := (ho2.lt k hk).1; (try simp only [World.size_alloc] at l_); omega
  have hi_y2 := o2_y2.hi
  go_wp2_with fail
  refine (HS.out _ _ _ (o2_y1).is (o2_y2).is).mono ?_
  rintro e w3 ⟨y3, rfl, ho3, hb3⟩
  have hB3 := joins hB2 hb3
  have o3_y3 := OS.of ho3
  have lo_y3 : ∀ k, y3.ownBlock = some k → w2.heap.size ≤ k := fun k hk => by have l_ := (ho3.lt k hk).1; (try simp only [World.size_alloc] at l_); omega
  have hi_y3 := o3_y3.hi
  go_wp2_with fail
  refine (toIntS_any _ l0 _ (hv0.below hB3) hl0).mono ?_
  rintro e w4 ⟨y4, rfl, ho4, hb4⟩
  have hB4 := joins hB3 hb4
  have o4_y3 := (o3_y3).below hb4
  have o4_y4 := OS.of ho4
  have lo_y4 : ∀ k, y4.ownBlock = some k → w3.heap.size ≤ k := fun k hk => by have l_ := (ho4.lt k hk).1; (try simp only [World.size_alloc] at l_); omega
  have hi_y4 := o4_y4.hi
  go_wp2_with fail
  refine (toIntS_any _ l1 _ (hv1.below hB4) hl1).mono ?_
  rintro e w5 ⟨y5, rfl, ho5, hb5⟩
  have hB5 := joins hB4 hb5
  have o5_y3 := (o4_y3).below hb5
  have o5_y4 := (o4_y4).below hb5
  have o5_y5 := OS.of ho5
  have lo_y5 : ∀ k, y5.ownBlock = some k → w4.heap.size ≤ k := fun k hk => by have l_ := (ho5.lt k hk).1; (try simp only [World.size_alloc] at l_); omega
  have hi_y5 := o5_y5.hi
  go_wp2_with fail
  refine (HI.out _ _ _ (o5_y4).is (o5_y5).is).mono ?_
  rintro e w6 ⟨y6, rfl, ho6, hb6⟩
  have hB6 := joins hB5 hb6
  have o6_y3 := (o5_y3).below hb6
  have o6_y4 := (o5_y4).below hb6
  have o6_y5 := (o5_y5).below hb6
  have o6_y6 := OS.of ho6
  have lo_y6 : ∀ k, y6.ownBlock = some k → w5.heap.size ≤ k := fun k hk => by have l_ := (ho6.lt k hk).1; (try simp only [World.size_alloc] at l_); omega
  have hi_y6 := o6_y6.hi
  go_wp2_with fail
  refine (eqIntS_same _ _ out0 _ (o6_y6).is (o6_y3).is).mono ?_
  rintro e w7 ⟨rfl, hb7⟩
  have hB7 := joins hB6 hb7
  have o7_y3 := (o6_y3).below hb7
  have o7_y4 := (o6_y4).below hb7
  have o7_y5 := (o6_y5).below hb7
  have o7_y6 := (o6_y6).below hb7
  go_wp2_with fail
  refine (toIntS_any _ l0 _ (hv0.below hB7) hl0).mono ?_
  rintro e w8 ⟨y8, rfl, ho8, hb8⟩
  have hB8 := joins hB7 hb8
  have o8_y3 := (o7_y3).below hb8
  have o8_y4 := (o7_y4).below hb8
  have o8_y5 := (o7_y5).below hb8
  have o8_y6 := (o7_y6).below hb8
  have o8_y8 := OS.of ho8
  have lo_y8 : ∀ k, y8.ownBlock = some k → w7.heap.size ≤ k := fun k hk => by have l_ := (ho8.lt k hk).1; (try simp only [World.size_alloc] at l_); omega
  have hi_y8 := o8_y8.hi
  go_wp2_with fail
  refine (eqIntS_same _ _ l0 _ (o8_y4).is (o8_y8).is).mono ?_
  rintro e w9 ⟨rfl, hb9⟩
  have hB9 := joins hB8 hb9
  have o9_y3 := (o8_y3).below hb9
  have o9_y4 := (o8_y4).below hb9
  have o9_y5 := (o8_y5).below hb9
  have o9_y6 := (o8_y6).below hb9
  go_wp2_with fail
  refine (toIntS_any _ l1 _ (hv1.below hB9) hl1).mono ?_
  rintro e w10 ⟨y10, rfl, ho10, hb10⟩
  have hB10 := joins hB9 hb10
  have o10_y3 := (o9_y3).below hb10
  have o10_y4 := (o9_y4).below hb10
  have o10_y5 := (o9_y5).below hb10
  have o10_y6 := (o9_y6).below hb10
  have o10_y10 := OS.of ho10
  have lo_y10 : ∀ k, y10.ownBlock = some k → w9.heap.size ≤ k := fun k hk => by have l_ := (ho10.lt k hk).1; (try simp only [World.size_alloc] at l_); omega
  have hi_y10 := o10_y10.hi
  go_wp2_with fail
  refine (eqIntS_same _ _ l1 _ (o10_y5).is (o10_y10).is).mono ?_
  rintro e w11 ⟨rfl, hb11⟩
  have hB11 := joins hB10 hb11
  have o11_y3 := (o10_y3).below hb11
  have o11_y4 := (o10_y4).below hb11
  have o11_y5 := (o10_y5).below hb11
  have o11_y6 := (o10_y6).below hb11
  go_wp2_with fail
  refine (o11_y4.mark (1) (by omega) (by omega)).mono ?_
  rintro e w12 ⟨rfl, o12_y4, ht12⟩
  have hB12 := tjoin hB11 ht12 (fun k hk => by have l_ := lo_y4 k hk; have s1_ := hb1.size; (try simp only [World.size_alloc] at s1_); have s2_ := hb2.size; (try simp only [World.size_alloc] at s2_); have s3_ := hb3.size; (try simp only [World.size_alloc] at s3_); omega)
  have o12_y3 := o11_y3.touch ht12 (fun k h1 h2 => by have u_ := hi_y3 k h1; have l_ := lo_y4 k h2; omega)
  have o12_y5 := o11_y5.touch ht12 (fun k h1 h2 => by have u_ := hi_y4 k h2; have l_ := lo_y5 k h1; omega)
  have o12_y6 := o11_y6.touch ht12 (fun k h1 h2 => by have u_ := hi_y4 k h2; have l_ := lo_y6 k h1; have s5_ := hb5.size; (try simp only [World.size_alloc] at s5_); omega)
  go_wp2_with fail
  refine (o12_y5.mark (1 + l0.length) (by omega) (by omega)).mono ?_
  rintro e w13 ⟨rfl, o13_y5, ht13⟩
  have hB13 := tjoin hB12 ht13 (fun k hk => by have l_ := lo_y5 k hk; have s1_ := hb1.size; (try simp only [World.size_alloc] at s1_); have s2_ := hb2.size; (try simp only [World.size_alloc] at s2_); have s3_ := hb3.size; (try simp only [World.size_alloc] at s3_); have s4_ := hb4.size; (try simp only [World.size_alloc] at s4_); omega)
  have o13_y3 := o12_y3.touch ht13 (fun k h1 h2 => by have u_ := hi_y3 k h1; have l_ := lo_y5 k h2; have s4_ := hb4.size; (try simp only [World.size_alloc] at s4_); omega)
  have o13_y6 := o12_y6.touch ht13 (fun k h1 h2 => by have u_ := hi_y5 k h2; have l_ := lo_y6 k h1; omega)
  go_wp2_with fail
  refine (eqIntS_same _ _ out0 _ (o13_y6).is (o13_y3).is).mono ?_
  rintro e w14 ⟨rfl, hb14⟩
  have hB14 := joins hB13 hb14
  have o14_y3 := (o13_y3).below hb14
  have o14_y6 := (o13_y6).below hb14
  go_wp2_with fail
  refine (o14_y6.mark (1) (by omega) (by omega)).mono ?_
  rintro e w15 ⟨rfl, o15_y6, ht15⟩
  have hB15 := tjoin hB14 ht15 (fun k hk => by have l_ := lo_y6 k hk; have s1_ := hb1.size; (try simp only [World.size_alloc] at s1_); have s2_ := hb2.size; (try simp only [World.size_alloc] at s2_); have s3_ := hb3.size; (try simp only [World.size_alloc] at s3_); have s4_ := hb4.size; (try simp only [World.size_alloc] at s4_); have s5_ := hb5.size; (try simp only [World.size_alloc] at s5_); omega)
  have o15_y3 := o14_y3.touch ht15 (fun k h1 h2 => by have u_ := hi_y3 k h1; have l_ := lo_y6 k h2; have s4_ := hb4.size; (try simp only [World.size_alloc] at s4_); have s5_ := hb5.size; (try simp only [World.size_alloc] at s5_); omega)
  go_wp2_with fail
  refine (o15_y6.held (by omega) (by omega)).mono ?_
  rintro e w16 ⟨rfl, hb16⟩
  have hB16 := joins hB15 hb16
  have o16_y3 := (o15_y3).below hb16
  have o16_y6 := (o15_y6).below hb16
  go_wp2_with fail
  refine (toIntS_any _ l0 _ (hv0.below hB16) hl0).mono ?_
  rintro e w17 ⟨y17, rfl, ho17, hb17⟩
  have hB17 := joins hB16 hb17
  have o17_y3 := (o16_y3).below hb17
  have o17_y6 := (o16_y6).below hb17
  have o17_y17 := OS.of ho17
  have lo_y17 : ∀ k, y17.ownBlock = some k → w16.heap.size ≤ k := fun k hk => by have l_ := (ho17.lt k hk).1; (try simp only [World.size_alloc] at l_); omega
  have hi_y17 := o17_y17.hi
  go_wp2_with fail
  refine (toIntS_any _ l1 _ (hv1.below hB17) hl1).mono ?_
  rintro e w18 ⟨y18, rfl, ho18, hb18⟩
  have hB18 := joins hB17 hb18
  have o18_y3 := (o17_y3).below hb18
  have o18_y6 := (o17_y6).below hb18
  have o18_y17 := (o17_y17).below hb18
  have o18_y18 := OS.of ho18
  have lo_y18 : ∀ k, y18.ownBlock = some k → w17.heap.size ≤ k := fun k hk => by have l_ := (ho18.lt k hk).1; (try simp only [World.size_alloc] at l_); omega
  have hi_y18 := o18_y18.hi
  go_wp2_with fail
  refine (HI.out _ _ _ (o18_y17).is (o18_y18).is).mono ?_
  rintro e w19 ⟨y19, rfl, ho19, hb19⟩
  have hB19 := joins hB18 hb19
  have o19_y3 := (o18_y3).below hb19
  have o19_y6 := (o18_y6).below hb19
  have o19_y19 := OS.of ho19
  have lo_y19 : ∀ k, y19.ownBlock = some k → w18.heap.size ≤ k := fun k hk => by have l_ := (ho19.lt k hk).1; (try simp only [World.size_alloc] at l_); omega
  have hi_y19 := o19_y19.hi
  go_wp2_with fail
  refine (eqIntS_same _ _ out0 _ (o19_y19).is (o19_y3).is).mono ?_
  rintro e w20 ⟨rfl, hb20⟩
  have hB20 := joins hB19 hb20
  have o20_y6 := (o19_y6).below hb20
  go_wp2_with fail
  refine (o20_y6.held (by omega) (by omega)).mono ?_
  rintro e w21 ⟨rfl, hb21⟩
  have hB21 := joins hB20 hb21
  go_wp2_with fail
  go_returns
  exact ⟨rfl, hB21⟩

set_option maxRecDepth 100000 in
theorem moveBetween_law (w : World) (a0 : Option Addr) (c0 : Nat) (l0 : List Int) (hv0 : IS w (.slice a0 l0.length c0) l0) (a1 : Option Addr) (c1 : Nat) (l1 : List Int) (hv1 : IS w (.slice a1 l1.length c1) l1) (out0 : List Int) (hout0 : out0.length ≤ 1048576) (r1 : Bool)
    (hs : ∀ (v0 : Value) (v1 : Value) (w : World), IS w v0 l0 → IS w v1 l1 → l0.length ≤ 1048576 → l1.length ≤ 1048576 → Calls Try.prog 20 #[v0, v1] w (MakesB w out0 r1))
    (hi : ∀ (v0 : Value) (v1 : Value) (w : World), IS w v0 l0 → IS w v1 l1 → l0.length ≤ 1048576 → l1.length ≤ 1048576 → Calls Try.prog 21 #[v0, v1] w (MakesB w out0 r1)) :
    Calls Try.prog 6 #[.slice a0 l0.length c0, .slice a1 l1.length c1] w (Ret w (.bool true)) := by
  by_cases hl0 : l0.length ≤ 1048576
  · skip
    by_cases hl1 : l1.length ≤ 1048576
    · skip
      exact moveBetween_walk w a0 c0 l0 hl0 hv0 a1 c1 l1 hl1 hv1 out0 hout0 r1 (fun v0 v1 w h0 h1 => hs v0 v1 w h0 h1 hl0 hl1) (fun v0 v1 w h0 h1 => hi v0 v1 w h0 h1 hl0 hl1)
    · clear hs hi
      have hn1 : (1048576 : Int) < (l1.length : Int) := by omega
      go_enter Try.func6, Try.ntmps6
      go_wp2_with fail
      go_returns
      exact ⟨rfl, by go_grown⟩
  · clear hs hi
    have hn0 : (1048576 : Int) < (l0.length : Int) := by omega
    go_enter Try.func6, Try.ntmps6
    go_wp2_with fail
    go_returns
    exact ⟨rfl, by go_grown⟩
end Go.Proofs.Ytcagiecgbjnefaa
