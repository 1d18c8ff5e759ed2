/- The walk of the law FnExactClassHeads: out of the contracts of the two functions. -/
import Derived.Test.YtcagiecgbjnefabRwL
namespace Go.Proofs.Ytcagiecgbjnefab
set_option maxRecDepth 100000
open Go.RowKit

set_option maxRecDepth 100000 in
set_option maxHeartbeats 4000000 in
theorem classHeads_walk (w : World) (x0 : Int) (out0 : List (List Int)) (hout0 : tot out0 ≤ 1048576) (r1 : Bool)
    (hs : ∀ (w : World), Calls Try.prog 25 #[.int .i64 x0] w (MakesRB w out0 r1))
    (hi : ∀ (w : World), Calls Try.prog 26 #[.int .i64 x0] w (MakesRB w out0 r1)) :
    Calls Try.prog 7 #[.int .i64 x0] w (Ret w (.bool true)) := by
  have HS := Lib.hid hs
  have HI := Lib.hid hi
  clear hs hi
  have hB0 : Below w.heap.size w w := Below.refl _ _
  go_enter Try.func7, Try.ntmps7
  go_wp2_with fail
  refine (HS.out _ ).mono ?_
  rintro e w1 ⟨y1, rfl, ho1, hb1⟩
  have hB1 := joins hB0 hb1
  have o1_y1 := OM.of w.heap.size ho1 (by first | exact Nat.le_refl _ | (simp only [World.size_alloc]; omega))
  have lo_y1 : ∀ k, born w.heap.size w1.heap.size k → w.heap.size ≤ k := fun k hk => hk.1
  have hi_y1 := o1_y1.hi
  go_wp2_with fail
  refine (HI.out _ ).mono ?_
  rintro e w2 ⟨y2, rfl, ho2, hb2⟩
  have hB2 := joins hB1 hb2
  have o2_y1 := (o1_y1).below hb2
  have o2_y2 := OM.of w1.heap.size ho2 (by first | exact Nat.le_refl _ | (simp only [World.size_alloc]; omega))
  have lo_y2 : ∀ k, born w1.heap.size w2.heap.size k → w1.heap.size ≤ k := fun k hk => hk.1
  have hi_y2 := o2_y2.hi
  go_wp2_with fail
  refine (eqIntSS_same _ _ out0 _ (o2_y2).is (o2_y1).is).mono ?_
  rintro e w3 ⟨rfl, hb3⟩
  have hB3 := joins hB2 hb3
  have o3_y1 := (o2_y1).below hb3
  have o3_y2 := (o2_y2).below hb3
  go_wp2_with fail
  refine (o3_y2.mark (1) (by omega) (by omega)).mono ?_
  rintro e w4 ⟨rfl, o4_y2, ht4⟩
  have hB4 := tjoin hB3 ht4 (fun k hk => by have l_ := lo_y2 k hk; have s1_ := hb1.size; (try simp only [World.size_alloc] at s1_); omega)
  have o4_y1 := o3_y1.touch ht4 (fun k h1 h2 => by have u_ := hi_y1 k h1; have l_ := lo_y2 k h2; omega)
  go_wp2_with fail
  refine (o4_y2.held (by omega) (by omega)).mono ?_
  rintro e w5 ⟨rfl, hb5⟩
  have hB5 := joins hB4 hb5
  have o5_y1 := (o4_y1).below hb5
  have o5_y2 := (o4_y2).below hb5
  go_wp2_with fail
  refine (HI.out _ ).mono ?_
  rintro e w6 ⟨y6, rfl, ho6, hb6⟩
  have hB6 := joins hB5 hb6
  have o6_y1 := (o5_y1).below hb6
  have o6_y2 := (o5_y2).below hb6
  have o6_y6 := OM.of w5.heap.size ho6 (by first | exact Nat.le_refl _ | (simp only [World.size_alloc]; omega))
  have lo_y6 : ∀ k, born w5.heap.size w6.heap.size k → w5.heap.size ≤ k := fun k hk => hk.1
  have hi_y6 := o6_y6.hi
  go_wp2_with fail
  refine (eqIntSS_same _ _ out0 _ (o6_y6).is (o6_y1).is).mono ?_
  rintro e w7 ⟨rfl, hb7⟩
  have hB7 := joins hB6 hb7
  have o7_y2 := (o6_y2).below hb7
  go_wp2_with fail
  refine (o7_y2.held (by omega) (by omega)).mono ?_
  rintro e w8 ⟨rfl, hb8⟩
  have hB8 := joins hB7 hb8
  go_wp2_with fail
  go_returns
  exact ⟨rfl, hB8⟩

set_option maxRecDepth 100000 in
theorem classHeads_law (w : World) (x0 : Int) (out0 : List (List Int)) (hout0 : tot out0 ≤ 1048576) (r1 : Bool)
    (hs : ∀ (w : World), Calls Try.prog 25 #[.int .i64 x0] w (MakesRB w out0 r1))
    (hi : ∀ (w : World), Calls Try.prog 26 #[.int .i64 x0] w (MakesRB w out0 r1)) :
    Calls Try.prog 7 #[.int .i64 x0] w (Ret w (.bool true)) := by
  exact classHeads_walk w x0 out0 hout0 r1 (fun w => hs w) (fun w => hi w)
end Go.Proofs.Ytcagiecgbjnefab
