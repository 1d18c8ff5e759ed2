/- The walk of the law FnExactLeastOf: out of the contracts of the two functions. -/
import Derived.Test.YtcagiecgbjnefabGsn
namespace Go.Proofs.Ytcagiecgbjnefab
set_option maxRecDepth 100000
open Go.RowKit

set_option maxRecDepth 100000 in
set_option maxHeartbeats 4000000 in
theorem leastOf_walk (w : World) (a0 : Option Addr) (c0 : Nat) (l0 : List Int) (hl0 : l0.length ≤ 1048576) (hv0 : IS w (.slice a0 l0.length c0) l0) (out0 : List Int) (hout0 : out0.length ≤ 1048576) (r1 : Bool)
    (hs : ∀ (v0 : Value) (w : World), IS w v0 l0 → Calls Try.prog 18 #[v0] w (MakesB w out0 r1))
    (hi : ∀ (v0 : Value) (w : World), IS w v0 l0 → Calls Try.prog 19 #[v0] w (MakesB w out0 r1)) :
    Calls Try.prog 4 #[.slice a0 l0.length c0] w (Ret w (.bool true)) := by
  have HS := Lib.hid hs
  have HI := Lib.hid hi
  clear hs hi
  have hB0 : Below w.heap.size w w := Below.refl _ _
  go_enter Try.func4, Try.ntmps4
  go_wp2_with fail
  refine (toIntS_any _ l0 _ hv0 hl0).mono ?_
  rintro e w1 ⟨y1, rfl, ho1, hb1⟩
  have hB1 := joins hB0 hb1
  have o1_y1 := OS.of ho1
  have lo_y1 : ∀ k, y1.ownBlock = some k → w.heap.size ≤ k := fun k hk => by have l_ := (ho1.lt k hk).1; (try simp only [World.size_alloc] at l_); omega
  have hi_y1 := o1_y1.hi
  go_wp2_with fail
  refine (HS.out _ _ (o1_y1).is).mono ?_
  rintro e w2 ⟨y2, rfl, ho2, hb2⟩
  have hB2 := joins hB1 hb2
  have o2_y2 := OS.of ho2
  have lo_y2 : ∀ k, y2.ownBlock = some k → w1.heap.size ≤ k := fun k hk => by have l_ := (ho2.lt k hk).1; (try simp only [World.size_alloc] at l_); omega
  have hi_y2 := o2_y2.hi
  go_wp2_with fail
  refine (toIntS_any _ l0 _ (hv0.below hB2) hl0).mono ?_
  rintro e w3 ⟨y3, rfl, ho3, hb3⟩
  have hB3 := joins hB2 hb3
  have o3_y2 := (o2_y2).below hb3
  have o3_y3 := OS.of ho3
  have lo_y3 : ∀ k, y3.ownBlock = some k → w2.heap.size ≤ k := fun k hk => by have l_ := (ho3.lt k hk).1; (try simp only [World.size_alloc] at l_); omega
  have hi_y3 := o3_y3.hi
  go_wp2_with fail
  refine (HI.out _ _ (o3_y3).is).mono ?_
  rintro e w4 ⟨y4, rfl, ho4, hb4⟩
  have hB4 := joins hB3 hb4
  have o4_y2 := (o3_y2).below hb4
  have o4_y3 := (o3_y3).below hb4
  have o4_y4 := OS.of ho4
  have lo_y4 : ∀ k, y4.ownBlock = some k → w3.heap.size ≤ k := fun k hk => by have l_ := (ho4.lt k hk).1; (try simp only [World.size_alloc] at l_); omega
  have hi_y4 := o4_y4.hi
  go_wp2_with fail
  refine (eqIntS_same _ _ out0 _ (o4_y4).is (o4_y2).is).mono ?_
  rintro e w5 ⟨rfl, hb5⟩
  have hB5 := joins hB4 hb5
  have o5_y2 := (o4_y2).below hb5
  have o5_y3 := (o4_y3).below hb5
  have o5_y4 := (o4_y4).below hb5
  go_wp2_with fail
  refine (toIntS_any _ l0 _ (hv0.below hB5) hl0).mono ?_
  rintro e w6 ⟨y6, rfl, ho6, hb6⟩
  have hB6 := joins hB5 hb6
  have o6_y2 := (o5_y2).below hb6
  have o6_y3 := (o5_y3).below hb6
  have o6_y4 := (o5_y4).below hb6
  have o6_y6 := OS.of ho6
  have lo_y6 : ∀ k, y6.ownBlock = some k → w5.heap.size ≤ k := fun k hk => by have l_ := (ho6.lt k hk).1; (try simp only [World.size_alloc] at l_); omega
  have hi_y6 := o6_y6.hi
  go_wp2_with fail
  refine (eqIntS_same _ _ l0 _ (o6_y3).is (o6_y6).is).mono ?_
  rintro e w7 ⟨rfl, hb7⟩
  have hB7 := joins hB6 hb7
  have o7_y2 := (o6_y2).below hb7
  have o7_y3 := (o6_y3).below hb7
  have o7_y4 := (o6_y4).below hb7
  go_wp2_with fail
  refine (o7_y3.mark (1) (by omega) (by omega)).mono ?_
  rintro e w8 ⟨rfl, o8_y3, ht8⟩
  have hB8 := tjoin hB7 ht8 (fun k hk => by have l_ := lo_y3 k hk; have s1_ := hb1.size; (try simp only [World.size_alloc] at s1_); have s2_ := hb2.size; (try simp only [World.size_alloc] at s2_); omega)
  have o8_y2 := o7_y2.touch ht8 (fun k h1 h2 => by have u_ := hi_y2 k h1; have l_ := lo_y3 k h2; omega)
  have o8_y4 := o7_y4.touch ht8 (fun k h1 h2 => by have u_ := hi_y3 k h2; have l_ := lo_y4 k h1; omega)
  go_wp2_with fail
  refine (eqIntS_same _ _ out0 _ (o8_y4).is (o8_y2).is).mono ?_
  rintro e w9 ⟨rfl, hb9⟩
  have hB9 := joins hB8 hb9
  have o9_y2 := (o8_y2).below hb9
  have o9_y4 := (o8_y4).below hb9
  go_wp2_with fail
  refine (o9_y4.mark (1) (by omega) (by omega)).mono ?_
  rintro e w10 ⟨rfl, o10_y4, ht10⟩
  have hB10 := tjoin hB9 ht10 (fun k hk => by have l_ := lo_y4 k hk; have s1_ := hb1.size; (try simp only [World.size_alloc] at s1_); have s2_ := hb2.size; (try simp only [World.size_alloc] at s2_); have s3_ := hb3.size; (try simp only [World.size_alloc] at s3_); omega)
  have o10_y2 := o9_y2.touch ht10 (fun k h1 h2 => by have u_ := hi_y2 k h1; have l_ := lo_y4 k h2; have s3_ := hb3.size; (try simp only [World.size_alloc] at s3_); omega)
  go_wp2_with fail
  refine (o10_y4.held (by omega) (by omega)).mono ?_
  rintro e w11 ⟨rfl, hb11⟩
  have hB11 := joins hB10 hb11
  have o11_y2 := (o10_y2).below hb11
  have o11_y4 := (o10_y4).below hb11
  go_wp2_with fail
  refine (toIntS_any _ l0 _ (hv0.below hB11) hl0).mono ?_
  rintro e w12 ⟨y12, rfl, ho12, hb12⟩
  have hB12 := joins hB11 hb12
  have o12_y2 := (o11_y2).below hb12
  have o12_y4 := (o11_y4).below hb12
  have o12_y12 := OS.of ho12
  have lo_y12 : ∀ k, y12.ownBlock = some k → w11.heap.size ≤ k := fun k hk => by have l_ := (ho12.lt k hk).1; (try simp only [World.size_alloc] at l_); omega
  have hi_y12 := o12_y12.hi
  go_wp2_with fail
  refine (HI.out _ _ (o12_y12).is).mono ?_
  rintro e w13 ⟨y13, rfl, ho13, hb13⟩
  have hB13 := joins hB12 hb13
  have o13_y2 := (o12_y2).below hb13
  have o13_y4 := (o12_y4).below hb13
  have o13_y13 := OS.of ho13
  have lo_y13 : ∀ k, y13.ownBlock = some k → w12.heap.size ≤ k := fun k hk => by have l_ := (ho13.lt k hk).1; (try simp only [World.size_alloc] at l_); omega
  have hi_y13 := o13_y13.hi
  go_wp2_with fail
  refine (eqIntS_same _ _ out0 _ (o13_y13).is (o13_y2).is).mono ?_
  rintro e w14 ⟨rfl, hb14⟩
  have hB14 := joins hB13 hb14
  have o14_y4 := (o13_y4).below hb14
  go_wp2_with fail
  refine (o14_y4.held (by omega) (by omega)).mono ?_
  rintro e w15 ⟨rfl, hb15⟩
  have hB15 := joins hB14 hb15
  go_wp2_with fail
  go_returns
  exact ⟨rfl, hB15⟩

set_option maxRecDepth 100000 in
theorem leastOf_law (w : World) (a0 : Option Addr) (c0 : Nat) (l0 : List Int) (hv0 : IS w (.slice a0 l0.length c0) l0) (out0 : List Int) (hout0 : out0.length ≤ 1048576) (r1 : Bool)
    (hs : ∀ (v0 : Value) (w : World), IS w v0 l0 → l0.length ≤ 1048576 → Calls Try.prog 18 #[v0] w (MakesB w out0 r1))
    (hi : ∀ (v0 : Value) (w : World), IS w v0 l0 → l0.length ≤ 1048576 → Calls Try.prog 19 #[v0] w (MakesB w out0 r1)) :
    Calls Try.prog 4 #[.slice a0 l0.length c0] w (Ret w (.bool true)) := by
  by_cases hl0 : l0.length ≤ 1048576
  · skip
    exact leastOf_walk w a0 c0 l0 hl0 hv0 out0 hout0 r1 (fun v0 w h0 => hs v0 w h0 hl0) (fun v0 w h0 => hi v0 w h0 hl0)
  · clear hs hi
    have hn0 : (1048576 : Int) < (l0.length : Int) := by omega
    go_enter Try.func4, Try.ntmps4
    go_wp2_with fail
    go_returns
    exact ⟨rfl, by go_grown⟩
end Go.Proofs.Ytcagiecgbjnefab
