/- The walk of the law FnExactGreatestSet: out of the contracts of the two functions. -/
import Derived.Test.YtfjhocmnafdnfaaRwL
namespace Go.Proofs.Ytfjhocmnafdnfaa
set_option maxRecDepth 100000
open Go.RowKit

set_option maxRecDepth 100000 in
set_option maxHeartbeats 4000000 in
theorem greatestSet_walk (w : World) (a0 : Option Addr) (c0 : Nat) (l0 : List (List Int)) (hl0 : sz2 l0 ≤ 1048576) (hv0 : IR w (.slice a0 l0.length c0) l0) (out0 : List Int) (hout0 : out0.length ≤ 1048576) (r1 : Bool)
    (hs : ∀ (v0 : Value) (w : World), IR w v0 l0 → Calls Try.prog 10 #[v0] w (MakesB w out0 r1))
    (hi : ∀ (v0 : Value) (w : World), IR w v0 l0 → Calls Try.prog 12 #[v0] w (MakesB w out0 r1)) :
    Calls Try.prog 3 #[.slice a0 l0.length c0] w (Ret w (.bool true)) := by
  have HS := Lib.hid hs
  have HI := Lib.hid hi
  clear hs hi
  have tz0 := tot_le_sz l0
  have hB0 : Below w.heap.size w w := Below.refl _ _
  go_enter Try.func3, Try.ntmps3
  go_wp2_with fail
  refine (szIntSS_yes _ l0 _ _ hv0 (by omega) (by omega)).mono ?_
  rintro e w1 ⟨rfl, hb1⟩
  have hB1 := joins hB0 hb1
  go_wp2_with fail
  refine (toIntSS_any _ l0 _ (hv0.below hB1) (by omega)).mono ?_
  rintro e w2 ⟨y2, rfl, ho2, hb2⟩
  have hB2 := joins hB1 hb2
  have o2_y2 := OM.of w1.heap.size ho2 (by first | exact Nat.le_refl _ | (simp only [World.size_alloc]; omega))
  have lo_y2 : ∀ k, born w1.heap.size w2.heap.size k → w1.heap.size ≤ k := fun k hk => hk.1
  have hi_y2 := o2_y2.hi
  go_wp2_with fail
  refine (HS.out _ _ (o2_y2).is).mono ?_
  rintro e w3 ⟨y3, rfl, ho3, hb3⟩
  have hB3 := joins hB2 hb3
  have o3_y3 := OS.of ho3
  have lo_y3 : ∀ k, y3.ownBlock = some k → w2.heap.size ≤ k := fun k hk => by have l_ := (ho3.lt k hk).1; (try simp only [World.size_alloc] at l_); omega
  have hi_y3 := o3_y3.hi
  go_wp2_with fail
  refine (toIntSS_any _ l0 _ (hv0.below hB3) (by omega)).mono ?_
  rintro e w4 ⟨y4, rfl, ho4, hb4⟩
  have hB4 := joins hB3 hb4
  have o4_y3 := (o3_y3).below hb4
  have o4_y4 := OM.of w3.heap.size ho4 (by first | exact Nat.le_refl _ | (simp only [World.size_alloc]; omega))
  have lo_y4 : ∀ k, born w3.heap.size w4.heap.size k → w3.heap.size ≤ k := fun k hk => hk.1
  have hi_y4 := o4_y4.hi
  go_wp2_with fail
  refine (HI.out _ _ (o4_y4).is).mono ?_
  rintro e w5 ⟨y5, rfl, ho5, hb5⟩
  have hB5 := joins hB4 hb5
  have o5_y3 := (o4_y3).below hb5
  have o5_y4 := (o4_y4).below hb5
  have o5_y5 := OS.of ho5
  have lo_y5 : ∀ k, y5.ownBlock = some k → w4.heap.size ≤ k := fun k hk => by have l_ := (ho5.lt k hk).1; (try simp only [World.size_alloc] at l_); omega
  have hi_y5 := o5_y5.hi
  go_wp2_with fail
  refine (eqIntS_same _ _ out0 _ (o5_y5).is (o5_y3).is).mono ?_
  rintro e w6 ⟨rfl, hb6⟩
  have hB6 := joins hB5 hb6
  have o6_y3 := (o5_y3).below hb6
  have o6_y4 := (o5_y4).below hb6
  have o6_y5 := (o5_y5).below hb6
  go_wp2_with fail
  refine (toIntSS_any _ l0 _ (hv0.below hB6) (by omega)).mono ?_
  rintro e w7 ⟨y7, rfl, ho7, hb7⟩
  have hB7 := joins hB6 hb7
  have o7_y3 := (o6_y3).below hb7
  have o7_y4 := (o6_y4).below hb7
  have o7_y5 := (o6_y5).below hb7
  have o7_y7 := OM.of w6.heap.size ho7 (by first | exact Nat.le_refl _ | (simp only [World.size_alloc]; omega))
  have lo_y7 : ∀ k, born w6.heap.size w7.heap.size k → w6.heap.size ≤ k := fun k hk => hk.1
  have hi_y7 := o7_y7.hi
  go_wp2_with fail
  refine (eqIntSS_same _ _ l0 _ (o7_y4).is (o7_y7).is).mono ?_
  rintro e w8 ⟨rfl, hb8⟩
  have hB8 := joins hB7 hb8
  have o8_y3 := (o7_y3).below hb8
  have o8_y4 := (o7_y4).below hb8
  have o8_y5 := (o7_y5).below hb8
  go_wp2_with fail
  refine (o8_y4.mark (1) (by omega) (by omega)).mono ?_
  rintro e w9 ⟨rfl, o9_y4, ht9⟩
  have hB9 := tjoin hB8 ht9 (fun k hk => by have l_ := lo_y4 k hk; have s1_ := hb1.size; (try simp only [World.size_alloc] at s1_); have s2_ := hb2.size; (try simp only [World.size_alloc] at s2_); have s3_ := hb3.size; (try simp only [World.size_alloc] at s3_); omega)
  have o9_y3 := o8_y3.touch ht9 (fun k h1 h2 => by have u_ := hi_y3 k h1; have l_ := lo_y4 k h2; omega)
  have o9_y5 := o8_y5.touch ht9 (fun k h1 h2 => by have u_ := hi_y4 k h2; have l_ := lo_y5 k h1; omega)
  go_wp2_with fail
  refine (eqIntS_same _ _ out0 _ (o9_y5).is (o9_y3).is).mono ?_
  rintro e w10 ⟨rfl, hb10⟩
  have hB10 := joins hB9 hb10
  have o10_y3 := (o9_y3).below hb10
  have o10_y5 := (o9_y5).below hb10
  go_wp2_with fail
  refine (o10_y5.mark (1) (by omega) (by omega)).mono ?_
  rintro e w11 ⟨rfl, o11_y5, ht11⟩
  have hB11 := tjoin hB10 ht11 (fun k hk => by have l_ := lo_y5 k hk; have s1_ := hb1.size; (try simp only [World.size_alloc] at s1_); have s2_ := hb2.size; (try simp only [World.size_alloc] at s2_); have s3_ := hb3.size; (try simp only [World.size_alloc] at s3_); have s4_ := hb4.size; (try simp only [World.size_alloc] at s4_); omega)
  have o11_y3 := o10_y3.touch ht11 (fun k h1 h2 => by have u_ := hi_y3 k h1; have l_ := lo_y5 k h2; have s4_ := hb4.size; (try simp only [World.size_alloc] at s4_); omega)
  go_wp2_with fail
  refine (o11_y5.held (by omega) (by omega)).mono ?_
  rintro e w12 ⟨rfl, hb12⟩
  have hB12 := joins hB11 hb12
  have o12_y3 := (o11_y3).below hb12
  have o12_y5 := (o11_y5).below hb12
  go_wp2_with fail
  refine (toIntSS_any _ l0 _ (hv0.below hB12) (by omega)).mono ?_
  rintro e w13 ⟨y13, rfl, ho13, hb13⟩
  have hB13 := joins hB12 hb13
  have o13_y3 := (o12_y3).below hb13
  have o13_y5 := (o12_y5).below hb13
  have o13_y13 := OM.of w12.heap.size ho13 (by first | exact Nat.le_refl _ | (simp only [World.size_alloc]; omega))
  have lo_y13 : ∀ k, born w12.heap.size w13.heap.size k → w12.heap.size ≤ k := fun k hk => hk.1
  have hi_y13 := o13_y13.hi
  go_wp2_with fail
  refine (HI.out _ _ (o13_y13).is).mono ?_
  rintro e w14 ⟨y14, rfl, ho14, hb14⟩
  have hB14 := joins hB13 hb14
  have o14_y3 := (o13_y3).below hb14
  have o14_y5 := (o13_y5).below hb14
  have o14_y14 := OS.of ho14
  have lo_y14 : ∀ k, y14.ownBlock = some k → w13.heap.size ≤ k := fun k hk => by have l_ := (ho14.lt k hk).1; (try simp only [World.size_alloc] at l_); omega
  have hi_y14 := o14_y14.hi
  go_wp2_with fail
  refine (eqIntS_same _ _ out0 _ (o14_y14).is (o14_y3).is).mono ?_
  rintro e w15 ⟨rfl, hb15⟩
  have hB15 := joins hB14 hb15
  have o15_y5 := (o14_y5).below hb15
  go_wp2_with fail
  refine (o15_y5.held (by omega) (by omega)).mono ?_
  rintro e w16 ⟨rfl, hb16⟩
  have hB16 := joins hB15 hb16
  go_wp2_with fail
  go_returns
  exact ⟨rfl, hB16⟩

set_option maxRecDepth 100000 in
theorem greatestSet_law (w : World) (a0 : Option Addr) (c0 : Nat) (l0 : List (List Int)) (hv0 : IR w (.slice a0 l0.length c0) l0) (out0 : List Int) (hout0 : out0.length ≤ 1048576) (r1 : Bool)
    (hs : ∀ (v0 : Value) (w : World), IR w v0 l0 → sz2 l0 ≤ 1048576 → Calls Try.prog 10 #[v0] w (MakesB w out0 r1))
    (hi : ∀ (v0 : Value) (w : World), IR w v0 l0 → sz2 l0 ≤ 1048576 → Calls Try.prog 12 #[v0] w (MakesB w out0 r1)) :
    Calls Try.prog 3 #[.slice a0 l0.length c0] w (Ret w (.bool true)) := by
  by_cases hl0 : sz2 l0 ≤ 1048576
  · skip
    exact greatestSet_walk w a0 c0 l0 hl0 hv0 out0 hout0 r1 (fun v0 w h0 => hs v0 w h0 hl0) (fun v0 w h0 => hi v0 w h0 hl0)
  · clear hs hi
    go_enter Try.func3, Try.ntmps3
    go_wp2_with fail
    refine (szIntSS_no _ l0 _ _ hv0 (by omega) (by omega) (by omega)).mono ?_
    rintro e u0 ⟨rfl, hb0⟩
    go_wp2_with fail
    go_returns
    exact ⟨rfl, hb0⟩
end Go.Proofs.Ytfjhocmnafdnfaa
