/- The walk of the law FnExactFirstGolay: out of the contracts of the two functions. -/
import Derived.Test.YtcpeikkkegpdhaaGsn
namespace Go.Proofs.Ytcpeikkkegpdhaa
set_option maxRecDepth 100000
open Go.RowKit

set_option maxRecDepth 100000 in
set_option maxHeartbeats 4000000 in
theorem firstGolay_walk (w : World) (x0 : Int) (out0 : List Int) (hout0 : out0.length ≤ 1048576) (out1 : List Int) (hout1 : out1.length ≤ 1048576) (r2 : Bool)
    (hs : ∀ (w : World), Calls Try.prog 7 #[.int .i64 x0] w (Makes2B w out0 out1 r2))
    (hi : ∀ (w : World), Calls Try.prog 8 #[.int .i64 x0] w (Makes2B w out0 out1 r2)) :
    Calls Try.prog 4 #[.int .i64 x0] w (Ret w (.bool true)) := by
  have HS := Lib.hid hs
  have HI := Lib.hid hi
  clear hs hi
  have hB0 : Below w.heap.size w w := Below.refl _ _
  go_enter Try.func4, Try.ntmps4
  go_wp2_with fail
  refine (HS.out _ ).mono ?_
  rintro e w1 ⟨y1a, y1b, rfl, ho1a, ho1b, ap1, hb1⟩
  have hB1 := joins hB0 hb1
  have o1_y1a := OS.of ho1a
  have lo_y1a : ∀ k, y1a.ownBlock = some k → w.heap.size ≤ k := fun k hk => by have l_ := (ho1a.lt k hk).1; (try simp only [World.size_alloc] at l_); omega
  have hi_y1a := o1_y1a.hi
  have o1_y1b := OS.of ho1b
  have lo_y1b : ∀ k, y1b.ownBlock = some k → w.heap.size ≤ k := fun k hk => by have l_ := (ho1b.lt k hk).1; (try simp only [World.size_alloc] at l_); omega
  have hi_y1b := o1_y1b.hi
  go_wp2_with fail
  refine (HI.out _ ).mono ?_
  rintro e w2 ⟨y2a, y2b, rfl, ho2a, ho2b, ap2, hb2⟩
  have hB2 := joins hB1 hb2
  have o2_y1a := (o1_y1a).below hb2
  have o2_y1b := (o1_y1b).below hb2
  have o2_y2a := OS.of ho2a
  have lo_y2a : ∀ k, y2a.ownBlock = some k → w1.heap.size ≤ k := fun k hk => by have l_ := (ho2a.lt k hk).1; (try simp only [World.size_alloc] at l_); omega
  have hi_y2a := o2_y2a.hi
  have o2_y2b := OS.of ho2b
  have lo_y2b : ∀ k, y2b.ownBlock = some k → w1.heap.size ≤ k := fun k hk => by have l_ := (ho2b.lt k hk).1; (try simp only [World.size_alloc] at l_); omega
  have hi_y2b := o2_y2b.hi
  go_wp2_with fail
  refine (eqIntS_same _ _ out0 _ (o2_y2a).is (o2_y1a).is).mono ?_
  rintro e w3 ⟨rfl, hb3⟩
  have hB3 := joins hB2 hb3
  have o3_y1a := (o2_y1a).below hb3
  have o3_y1b := (o2_y1b).below hb3
  have o3_y2a := (o2_y2a).below hb3
  have o3_y2b := (o2_y2b).below hb3
  go_wp2_with fail
  refine (eqIntS_same _ _ out1 _ (o3_y2b).is (o3_y1b).is).mono ?_
  rintro e w4 ⟨rfl, hb4⟩
  have hB4 := joins hB3 hb4
  have o4_y1a := (o3_y1a).below hb4
  have o4_y1b := (o3_y1b).below hb4
  have o4_y2a := (o3_y2a).below hb4
  have o4_y2b := (o3_y2b).below hb4
  go_wp2_with fail
  refine (o4_y2a.mark (1) (by omega) (by omega)).mono ?_
  rintro e w5 ⟨rfl, o5_y2a, ht5⟩
  have hB5 := tjoin hB4 ht5 (fun k hk => by have l_ := lo_y2a k hk; have s1_ := hb1.size; (try simp only [World.size_alloc] at s1_); omega)
  have o5_y1a := o4_y1a.touch ht5 (fun k h1 h2 => by have u_ := hi_y1a k h1; have l_ := lo_y2a k h2; omega)
  have o5_y1b := o4_y1b.touch ht5 (fun k h1 h2 => by have u_ := hi_y1b k h1; have l_ := lo_y2a k h2; omega)
  have o5_y2b := o4_y2b.touch ht5 (fun k h1 h2 => ap2 k h2 h1)
  go_wp2_with fail
  refine (o5_y2b.mark (1 + out0.length) (by omega) (by omega)).mono ?_
  rintro e w6 ⟨rfl, o6_y2b, ht6⟩
  have hB6 := tjoin hB5 ht6 (fun k hk => by have l_ := lo_y2b k hk; have s1_ := hb1.size; (try simp only [World.size_alloc] at s1_); omega)
  have o6_y1a := o5_y1a.touch ht6 (fun k h1 h2 => by have u_ := hi_y1a k h1; have l_ := lo_y2b k h2; omega)
  have o6_y1b := o5_y1b.touch ht6 (fun k h1 h2 => by have u_ := hi_y1b k h1; have l_ := lo_y2b k h2; omega)
  have o6_y2a := o5_y2a.touch ht6 (fun k h1 h2 => ap2 k h1 h2)
  go_wp2_with fail
  refine (o6_y2a.held (by omega) (by omega)).mono ?_
  rintro e w7 ⟨rfl, hb7⟩
  have hB7 := joins hB6 hb7
  have o7_y1a := (o6_y1a).below hb7
  have o7_y1b := (o6_y1b).below hb7
  have o7_y2a := (o6_y2a).below hb7
  have o7_y2b := (o6_y2b).below hb7
  go_wp2_with fail
  refine (o7_y2b.held (by omega) (by omega)).mono ?_
  rintro e w8 ⟨rfl, hb8⟩
  have hB8 := joins hB7 hb8
  have o8_y1a := (o7_y1a).below hb8
  have o8_y1b := (o7_y1b).below hb8
  have o8_y2a := (o7_y2a).below hb8
  have o8_y2b := (o7_y2b).below hb8
  go_wp2_with fail
  refine (HI.out _ ).mono ?_
  rintro e w9 ⟨y9a, y9b, rfl, ho9a, ho9b, ap9, hb9⟩
  have hB9 := joins hB8 hb9
  have o9_y1a := (o8_y1a).below hb9
  have o9_y1b := (o8_y1b).below hb9
  have o9_y2a := (o8_y2a).below hb9
  have o9_y2b := (o8_y2b).below hb9
  have o9_y9a := OS.of ho9a
  have lo_y9a : ∀ k, y9a.ownBlock = some k → w8.heap.size ≤ k := fun k hk => by have l_ := (ho9a.lt k hk).1; (try simp only [World.size_alloc] at l_); omega
  have hi_y9a := o9_y9a.hi
  have o9_y9b := OS.of ho9b
  have lo_y9b : ∀ k, y9b.ownBlock = some k → w8.heap.size ≤ k := fun k hk => by have l_ := (ho9b.lt k hk).1; (try simp only [World.size_alloc] at l_); omega
  have hi_y9b := o9_y9b.hi
  go_wp2_with fail
  refine (eqIntS_same _ _ out0 _ (o9_y9a).is (o9_y1a).is).mono ?_
  rintro e w10 ⟨rfl, hb10⟩
  have hB10 := joins hB9 hb10
  have o10_y1b := (o9_y1b).below hb10
  have o10_y2a := (o9_y2a).below hb10
  have o10_y2b := (o9_y2b).below hb10
  have o10_y9b := (o9_y9b).below hb10
  go_wp2_with fail
  refine (eqIntS_same _ _ out1 _ (o10_y9b).is (o10_y1b).is).mono ?_
  rintro e w11 ⟨rfl, hb11⟩
  have hB11 := joins hB10 hb11
  have o11_y2a := (o10_y2a).below hb11
  have o11_y2b := (o10_y2b).below hb11
  go_wp2_with fail
  refine (o11_y2a.held (by omega) (by omega)).mono ?_
  rintro e w12 ⟨rfl, hb12⟩
  have hB12 := joins hB11 hb12
  have o12_y2b := (o11_y2b).below hb12
  go_wp2_with fail
  refine (o12_y2b.held (by omega) (by omega)).mono ?_
  rintro e w13 ⟨rfl, hb13⟩
  have hB13 := joins hB12 hb13
  go_wp2_with fail
  go_returns
  exact ⟨rfl, hB13⟩

set_option maxRecDepth 100000 in
theorem firstGolay_law (w : World) (x0 : Int) (out0 : List Int) (hout0 : out0.length ≤ 1048576) (out1 : List Int) (hout1 : out1.length ≤ 1048576) (r2 : Bool)
    (hs : ∀ (w : World), Calls Try.prog 7 #[.int .i64 x0] w (Makes2B w out0 out1 r2))
    (hi : ∀ (w : World), Calls Try.prog 8 #[.int .i64 x0] w (Makes2B w out0 out1 r2)) :
    Calls Try.prog 4 #[.int .i64 x0] w (Ret w (.bool true)) := by
  exact firstGolay_walk w x0 out0 hout0 out1 hout1 r2 (fun w => hs w) (fun w => hi w)
end Go.Proofs.Ytcpeikkkegpdhaa
