/- The walk of the law FnExactFirstBarker: out of the contracts of the two functions. -/
import Derived.Test.YtmckophclehkpabLawKit
namespace Go.Proofs.Ytmckophclehkpab
open Go.RowKit

set_option maxRecDepth 100000 in
set_option maxHeartbeats 4000000 in
theorem firstBarker_walk (w : World) (x0 : Int) (out : List Int) (ok : Bool) (hout : out.length ≤ 1048576)
    (hs : ∀ (w : World), Calls Try.prog 23 #[.int .i64 x0] w (MakesB w out ok))
    (hi : ∀ (w : World), Calls Try.prog 24 #[.int .i64 x0] w (MakesB w out ok)) :
    Calls Try.prog 8 #[.int .i64 x0] w (Ret w (.bool true)) := by
  have HS := Lib.hid hs
  have HI := Lib.hid hi
  clear hs hi
  have hB0 : Below w.heap.size w w := Below.refl _ _
  go_enter Try.func8, Try.ntmps8
  go_wp2_with fail
  refine (HS.out _ ).mono ?_
  rintro e w1 ⟨v1', rfl, ho1, hb1⟩
  have hB1 := joins hB0 hb1
  go_wp2_with fail
  refine (HI.out _ ).mono ?_
  rintro e w2 ⟨v2', rfl, ho2, hb2⟩
  have hB2 := joins hB1 hb2
  go_wp2_with fail
  refine (eqIntS_same _ _ out _ ho2.is (ho1.below hb2).is).mono ?_
  rintro e w3 ⟨rfl, hb3⟩
  have hB3 := joins hB2 hb3
  go_wp2_with fail
  refine (markIntS_own _ _ out (1) _ (ho2.below hb3) (by omega) (by omega)).mono ?_
  rintro e w4 ⟨rfl, ho4, hg4⟩
  have hB4 := gjoin hB3 hg4 (fun k hk => by have := (ho2.lt k hk).1; have := hB1.size; omega)
  go_wp2_with fail
  refine (heldIntS_marks _ (1) out.length _ ho4.is (by omega) (by omega)).mono ?_
  rintro e w5 ⟨rfl, hb5⟩
  have hB5 := joins hB4 hb5
  go_wp2_with fail
  refine (HI.out _ ).mono ?_
  rintro e w6 ⟨v6', rfl, ho6, hb6⟩
  have hB6 := joins hB5 hb6
  go_wp2_with fail
  refine (eqIntS_same _ _ out _ ho6.is (((((ho1.below hb2).below hb3).grown hg4 (apart ho1 ho2 (Nat.le_refl _))).below hb5).below hb6).is).mono ?_
  rintro e w7 ⟨rfl, hb7⟩
  have hB7 := joins hB6 hb7
  go_wp2_with fail
  refine (heldIntS_marks _ (1) out.length _ (((ho4.below hb5).below hb6).below hb7).is (by omega) (by omega)).mono ?_
  rintro e w8 ⟨rfl, hb8⟩
  have hB8 := joins hB7 hb8
  go_wp2_with fail
  go_returns
  exact ⟨rfl, hB8⟩

set_option maxRecDepth 100000 in
theorem firstBarker_law (w : World) (x0 : Int) (out : List Int) (ok : Bool) (hout : out.length ≤ 1048576)
    (hs : ∀ (w : World), Calls Try.prog 23 #[.int .i64 x0] w (MakesB w out ok))
    (hi : ∀ (w : World), Calls Try.prog 24 #[.int .i64 x0] w (MakesB w out ok)) :
    Calls Try.prog 8 #[.int .i64 x0] w (Ret w (.bool true)) := by
  exact firstBarker_walk w x0 out ok hout (fun w => hs w) (fun w => hi w)
end Go.Proofs.Ytmckophclehkpab
