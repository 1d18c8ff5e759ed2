/- The walk of the law FnExactPowerAtRoots: out of the contracts of the two functions. -/
import Derived.Test.YtmckophclehkpaaLawKit
namespace Go.Proofs.Ytmckophclehkpaa
open Go.RowKit

set_option maxRecDepth 100000 in
set_option maxHeartbeats 4000000 in
theorem powerAtRoots_walk (w : World) (a0 : Option Addr) (c0 : Nat) (l0 : List Int) (hl0 : l0.length ≤ 1048576) (hv0 : IS w (.slice a0 l0.length c0) l0) (out : List Int) (ok : Bool) (hout : out.length ≤ 1048576)
    (hs : ∀ (v0 : Value) (w : World), IS w v0 l0 → Calls Try.prog 29 #[v0] w (MakesB w out ok))
    (hi : ∀ (v0 : Value) (w : World), IS w v0 l0 → Calls Try.prog 30 #[v0] w (MakesB w out ok)) :
    Calls Try.prog 9 #[.slice a0 l0.length c0] w (Ret w (.bool true)) := by
  have HS := Lib.hid hs
  have HI := Lib.hid hi
  clear hs hi
  have hB0 : Below w.heap.size w w := Below.refl _ _
  go_enter Try.func9, Try.ntmps9
  go_wp2_with fail
  refine (toIntS_any _ l0 _ hv0 hl0).mono ?_
  rintro e w1 ⟨v1', rfl, ho1, hb1⟩
  have hB1 := joins hB0 hb1
  go_wp2_with fail
  refine (HS.out _ _ ho1.is).mono ?_
  rintro e w2 ⟨v2', rfl, ho2, hb2⟩
  have hB2 := joins hB1 hb2
  go_wp2_with fail
  refine (toIntS_any _ l0 _ (hv0.below hB2) hl0).mono ?_
  rintro e w3 ⟨v3', rfl, ho3, hb3⟩
  have hB3 := joins hB2 hb3
  go_wp2_with fail
  refine (HI.out _ _ ho3.is).mono ?_
  rintro e w4 ⟨v4', rfl, ho4, hb4⟩
  have hB4 := joins hB3 hb4
  go_wp2_with fail
  refine (eqIntS_same _ _ out _ ho4.is ((ho2.below hb3).below hb4).is).mono ?_
  rintro e w5 ⟨rfl, hb5⟩
  have hB5 := joins hB4 hb5
  go_wp2_with fail
  refine (toIntS_any _ l0 _ (hv0.below hB5) hl0).mono ?_
  rintro e w6 ⟨v6', rfl, ho6, hb6⟩
  have hB6 := joins hB5 hb6
  go_wp2_with fail
  refine (eqIntS_same _ _ l0 _ (((ho3.below hb4).below hb5).below hb6).is ho6.is).mono ?_
  rintro e w7 ⟨rfl, hb7⟩
  have hB7 := joins hB6 hb7
  go_wp2_with fail
  refine (markIntS_own _ _ l0 (1) _ ((((ho3.below hb4).below hb5).below hb6).below hb7) (by omega) (by omega)).mono ?_
  rintro e w8 ⟨rfl, ho8, hg8⟩
  have hB8 := gjoin hB7 hg8 (fun k hk => by have := (ho3.lt k hk).1; have := hB2.size; omega)
  go_wp2_with fail
  refine (eqIntS_same _ _ out _ ((((ho4.below hb5).below hb6).below hb7).grown hg8 (apart' ho3 ho4 (Nat.le_refl _))).is ((((((ho2.below hb3).below hb4).below hb5).below hb6).below hb7).grown hg8 (apart ho2 ho3 (Nat.le_refl _))).is).mono ?_
  rintro e w9 ⟨rfl, hb9⟩
  have hB9 := joins hB8 hb9
  go_wp2_with fail
  refine (markIntS_own _ _ out (1) _ (((((ho4.below hb5).below hb6).below hb7).grown hg8 (apart' ho3 ho4 (Nat.le_refl _))).below hb9) (by omega) (by omega)).mono ?_
  rintro e w10 ⟨rfl, ho10, hg10⟩
  have hB10 := gjoin hB9 hg10 (fun k hk => by have := (ho4.lt k hk).1; have := hB3.size; omega)
  go_wp2_with fail
  refine (heldIntS_marks _ (1) out.length _ ho10.is (by omega) (by omega)).mono ?_
  rintro e w11 ⟨rfl, hb11⟩
  have hB11 := joins hB10 hb11
  go_wp2_with fail
  refine (toIntS_any _ l0 _ (hv0.below hB11) hl0).mono ?_
  rintro e w12 ⟨v12', rfl, ho12, hb12⟩
  have hB12 := joins hB11 hb12
  go_wp2_with fail
  refine (HI.out _ _ ho12.is).mono ?_
  rintro e w13 ⟨v13', rfl, ho13, hb13⟩
  have hB13 := joins hB12 hb13
  go_wp2_with fail
  refine (eqIntS_same _ _ out _ ho13.is (((((((((((ho2.below hb3).below hb4).below hb5).below hb6).below hb7).grown hg8 (apart ho2 ho3 (Nat.le_refl _))).below hb9).grown hg10 (apart ho2 ho4 (by have := hb3.size; omega))).below hb11).below hb12).below hb13).is).mono ?_
  rintro e w14 ⟨rfl, hb14⟩
  have hB14 := joins hB13 hb14
  go_wp2_with fail
  refine (heldIntS_marks _ (1) out.length _ ((((ho10.below hb11).below hb12).below hb13).below hb14).is (by omega) (by omega)).mono ?_
  rintro e w15 ⟨rfl, hb15⟩
  have hB15 := joins hB14 hb15
  go_wp2_with fail
  go_returns
  exact ⟨rfl, hB15⟩

set_option maxRecDepth 100000 in
theorem powerAtRoots_law (w : World) (a0 : Option Addr) (c0 : Nat) (l0 : List Int) (hv0 : IS w (.slice a0 l0.length c0) l0) (out : List Int) (ok : Bool) (hout : out.length ≤ 1048576)
    (hs : ∀ (v0 : Value) (w : World), IS w v0 l0 → l0.length ≤ 1048576 → Calls Try.prog 29 #[v0] w (MakesB w out ok))
    (hi : ∀ (v0 : Value) (w : World), IS w v0 l0 → l0.length ≤ 1048576 → Calls Try.prog 30 #[v0] w (MakesB w out ok)) :
    Calls Try.prog 9 #[.slice a0 l0.length c0] w (Ret w (.bool true)) := by
  by_cases hl0 : l0.length ≤ 1048576
  · skip
    exact powerAtRoots_walk w a0 c0 l0 hl0 hv0 out ok hout (fun v0 w h0 => hs v0 w h0 hl0) (fun v0 w h0 => hi v0 w h0 hl0)
  · clear hs hi
    go_enter Try.func9, Try.ntmps9
    go_wp2_with fail
    go_returns
    exact ⟨rfl, by go_grown⟩
end Go.Proofs.Ytmckophclehkpaa
