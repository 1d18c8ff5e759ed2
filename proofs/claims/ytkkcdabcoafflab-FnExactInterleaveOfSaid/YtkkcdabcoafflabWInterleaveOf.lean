/- The walk of the law FnExactInterleaveOf: out of the contracts of the two functions. -/
import Derived.Test.YtkkcdabcoafflabLawKit
namespace Go.Proofs.Ytkkcdabcoafflab
open Go.RowKit

set_option maxRecDepth 100000 in
set_option maxHeartbeats 4000000 in
theorem interleaveOf_walk (w : World) (a0 : Option Addr) (c0 : Nat) (l0 : List Int) (hl0 : l0.length ≤ 1048576) (hv0 : IS w (.slice a0 l0.length c0) l0) (a1 : Option Addr) (c1 : Nat) (l1 : List Int) (hl1 : l1.length ≤ 1048576) (hv1 : IS w (.slice a1 l1.length c1) l1) (out : List Int) (ok : Bool) (hout : out.length ≤ 1048576)
    (hs : ∀ (v0 : Value) (v1 : Value) (w : World), IS w v0 l0 → IS w v1 l1 → Calls Try.prog 23 #[v0, v1] w (MakesB w out ok))
    (hi : ∀ (v0 : Value) (v1 : Value) (w : World), IS w v0 l0 → IS w v1 l1 → Calls Try.prog 24 #[v0, v1] w (MakesB w out ok)) :
    Calls Try.prog 6 #[.slice a0 l0.length c0, .slice a1 l1.length c1] w (Ret w (.bool true)) := by
  have HS := Lib.hid hs
  have HI := Lib.hid hi
  clear hs hi
  have hB0 : Below w.heap.size w w := Below.refl _ _
  go_enter Try.func6, Try.ntmps6
  go_wp2_with fail
  refine (toIntS_any _ l0 _ hv0 hl0).mono ?_
  rintro e w1 ⟨v1', rfl, ho1, hb1⟩
  have hB1 := joins hB0 hb1
  go_wp2_with fail
  refine (toIntS_any _ l1 _ (hv1.below hB1) hl1).mono ?_
  rintro e w2 ⟨v2', rfl, ho2, hb2⟩
  have hB2 := joins hB1 hb2
  go_wp2_with fail
  refine (HS.out _ _ _ (ho1.below hb2).is ho2.is).mono ?_
  rintro e w3 ⟨v3', rfl, ho3, hb3⟩
  have hB3 := joins hB2 hb3
  go_wp2_with fail
  refine (toIntS_any _ l0 _ (hv0.below hB3) hl0).mono ?_
  rintro e w4 ⟨v4', rfl, ho4, hb4⟩
  have hB4 := joins hB3 hb4
  go_wp2_with fail
  refine (toIntS_any _ l1 _ (hv1.below hB4) hl1).mono ?_
  rintro e w5 ⟨v5', rfl, ho5, hb5⟩
  have hB5 := joins hB4 hb5
  go_wp2_with fail
  refine (HI.out _ _ _ (ho4.below hb5).is ho5.is).mono ?_
  rintro e w6 ⟨v6', rfl, ho6, hb6⟩
  have hB6 := joins hB5 hb6
  go_wp2_with fail
  refine (eqIntS_same _ _ out _ ho6.is (((ho3.below hb4).below hb5).below hb6).is).mono ?_
  rintro e w7 ⟨rfl, hb7⟩
  have hB7 := joins hB6 hb7
  go_wp2_with fail
  refine (toIntS_any _ l0 _ (hv0.below hB7) hl0).mono ?_
  rintro e w8 ⟨v8', rfl, ho8, hb8⟩
  have hB8 := joins hB7 hb8
  go_wp2_with fail
  refine (eqIntS_same _ _ l0 _ ((((ho4.below hb5).below hb6).below hb7).below hb8).is ho8.is).mono ?_
  rintro e w9 ⟨rfl, hb9⟩
  have hB9 := joins hB8 hb9
  go_wp2_with fail
  refine (toIntS_any _ l1 _ (hv1.below hB9) hl1).mono ?_
  rintro e w10 ⟨v10', rfl, ho10, hb10⟩
  have hB10 := joins hB9 hb10
  go_wp2_with fail
  refine (eqIntS_same _ _ l1 _ (((((ho5.below hb6).below hb7).below hb8).below hb9).below hb10).is ho10.is).mono ?_
  rintro e w11 ⟨rfl, hb11⟩
  have hB11 := joins hB10 hb11
  go_wp2_with fail
  refine (markIntS_own _ _ l0 (1) _ (((((((ho4.below hb5).below hb6).below hb7).below hb8).below hb9).below hb10).below hb11) (by omega) (by omega)).mono ?_
  rintro e w12 ⟨rfl, ho12, hg12⟩
  have hB12 := gjoin hB11 hg12 (fun k hk => by have := (ho4.lt k hk).1; have := hB3.size; omega)
  go_wp2_with fail
  refine (markIntS_own _ _ l1 (1 + l0.length) _ (((((((ho5.below hb6).below hb7).below hb8).below hb9).below hb10).below hb11).grown hg12 (apart' ho4 ho5 (Nat.le_refl _))) (by omega) (by omega)).mono ?_
  rintro e w13 ⟨rfl, ho13, hg13⟩
  have hB13 := gjoin hB12 hg13 (fun k hk => by have := (ho5.lt k hk).1; have := hB4.size; omega)
  go_wp2_with fail
  refine (eqIntS_same _ _ out _ (((((((ho6.below hb7).below hb8).below hb9).below hb10).below hb11).grown hg12 (apart' ho4 ho6 (by have := hb5.size; omega))).grown hg13 (apart' ho5 ho6 (Nat.le_refl _))).is ((((((((((ho3.below hb4).below hb5).below hb6).below hb7).below hb8).below hb9).below hb10).below hb11).grown hg12 (apart ho3 ho4 (Nat.le_refl _))).grown hg13 (apart ho3 ho5 (by have := hb4.size; omega))).is).mono ?_
  rintro e w14 ⟨rfl, hb14⟩
  have hB14 := joins hB13 hb14
  go_wp2_with fail
  refine (markIntS_own _ _ out (1) _ ((((((((ho6.below hb7).below hb8).below hb9).below hb10).below hb11).grown hg12 (apart' ho4 ho6 (by have := hb5.size; omega))).grown hg13 (apart' ho5 ho6 (Nat.le_refl _))).below hb14) (by omega) (by omega)).mono ?_
  rintro e w15 ⟨rfl, ho15, hg15⟩
  have hB15 := gjoin hB14 hg15 (fun k hk => by have := (ho6.lt k hk).1; have := hB5.size; omega)
  go_wp2_with fail
  refine (heldIntS_marks _ (1) out.length _ ho15.is (by omega) (by omega)).mono ?_
  rintro e w16 ⟨rfl, hb16⟩
  have hB16 := joins hB15 hb16
  go_wp2_with fail
  refine (toIntS_any _ l0 _ (hv0.below hB16) hl0).mono ?_
  rintro e w17 ⟨v17', rfl, ho17, hb17⟩
  have hB17 := joins hB16 hb17
  go_wp2_with fail
  refine (toIntS_any _ l1 _ (hv1.below hB17) hl1).mono ?_
  rintro e w18 ⟨v18', rfl, ho18, hb18⟩
  have hB18 := joins hB17 hb18
  go_wp2_with fail
  refine (HI.out _ _ _ (ho17.below hb18).is ho18.is).mono ?_
  rintro e w19 ⟨v19', rfl, ho19, hb19⟩
  have hB19 := joins hB18 hb19
  go_wp2_with fail
  refine (eqIntS_same _ _ out _ ho19.is ((((((((((((((((ho3.below hb4).below hb5).below hb6).below hb7).below hb8).below hb9).below hb10).below hb11).grown hg12 (apart ho3 ho4 (Nat.le_refl _))).grown hg13 (apart ho3 ho5 (by have := hb4.size; omega))).below hb14).grown hg15 (apart ho3 ho6 (by have := hb4.size; have := hb5.size; omega))).below hb16).below hb17).below hb18).below hb19).is).mono ?_
  rintro e w20 ⟨rfl, hb20⟩
  have hB20 := joins hB19 hb20
  go_wp2_with fail
  refine (heldIntS_marks _ (1) out.length _ (((((ho15.below hb16).below hb17).below hb18).below hb19).below hb20).is (by omega) (by omega)).mono ?_
  rintro e w21 ⟨rfl, hb21⟩
  have hB21 := joins hB20 hb21
  go_wp2_with fail
  go_returns
  exact ⟨rfl, hB21⟩

set_option maxRecDepth 100000 in
theorem interleaveOf_law (w : World) (a0 : Option Addr) (c0 : Nat) (l0 : List Int) (hv0 : IS w (.slice a0 l0.length c0) l0) (a1 : Option Addr) (c1 : Nat) (l1 : List Int) (hv1 : IS w (.slice a1 l1.length c1) l1) (out : List Int) (ok : Bool) (hout : out.length ≤ 1048576)
    (hs : ∀ (v0 : Value) (v1 : Value) (w : World), IS w v0 l0 → IS w v1 l1 → l0.length ≤ 1048576 → l1.length ≤ 1048576 → Calls Try.prog 23 #[v0, v1] w (MakesB w out ok))
    (hi : ∀ (v0 : Value) (v1 : Value) (w : World), IS w v0 l0 → IS w v1 l1 → l0.length ≤ 1048576 → l1.length ≤ 1048576 → Calls Try.prog 24 #[v0, v1] w (MakesB w out ok)) :
    Calls Try.prog 6 #[.slice a0 l0.length c0, .slice a1 l1.length c1] w (Ret w (.bool true)) := by
  by_cases hl0 : l0.length ≤ 1048576
  · skip
    by_cases hl1 : l1.length ≤ 1048576
    · skip
      exact interleaveOf_walk w a0 c0 l0 hl0 hv0 a1 c1 l1 hl1 hv1 out ok hout (fun v0 v1 w h0 h1 => hs v0 v1 w h0 h1 hl0 hl1) (fun v0 v1 w h0 h1 => hi v0 v1 w h0 h1 hl0 hl1)
    · clear hs hi
      go_enter Try.func6, Try.ntmps6
      go_wp2_with fail
      go_returns
      exact ⟨rfl, by go_grown⟩
  · clear hs hi
    go_enter Try.func6, Try.ntmps6
    go_wp2_with fail
    go_returns
    exact ⟨rfl, by go_grown⟩
end Go.Proofs.Ytkkcdabcoafflab
