/- The walk of the law FnExactPeriodicAt: out of the contracts of the two functions. -/
import Derived.Test.YtmckophclehkpaaEqG
namespace Go.Proofs.Ytmckophclehkpaa
open Go.RowKit

set_option maxRecDepth 100000 in
set_option maxHeartbeats 4000000 in
theorem periodicAt_walk (w : World) (a0 : Option Addr) (c0 : Nat) (l0 : List Int) (hl0 : l0.length ≤ 1048576) (hv0 : IS w (.slice a0 l0.length c0) l0) (a1 : Option Addr) (c1 : Nat) (l1 : List Int) (hl1 : l1.length ≤ 1048576) (hv1 : IS w (.slice a1 l1.length c1) l1) (x2 : Int) (r0 : Int) (q0 : Int) (r1 : Bool)
    (hs : ∀ (v0 : Value) (v1 : Value) (w : World), IS w v0 l0 → IS w v1 l1 → Calls Try.prog 15 #[v0, v1, .int .i64 x2] w (Ret w (.tuple #[.agg #[.int .i64 r0, .int .i64 q0], .bool r1])))
    (hi : ∀ (v0 : Value) (v1 : Value) (w : World), IS w v0 l0 → IS w v1 l1 → Calls Try.prog 16 #[v0, v1, .int .i64 x2] w (Ret w (.tuple #[.agg #[.int .i64 r0, .int .i64 q0], .bool r1]))) :
    Calls Try.prog 4 #[.slice a0 l0.length c0, .slice a1 l1.length c1, .int .i64 x2] w (Ret w (.bool true)) := by
  have HS := Lib.hid hs
  have HI := Lib.hid hi
  clear hs hi
  have hB0 : Below w.heap.size w w := Below.refl _ _
  go_enter Try.func4, Try.ntmps4
  go_wp2_with fail
  refine (toIntS_any _ l0 _ hv0 hl0).mono ?_
  rintro e w1 ⟨v1', rfl, ho1, hb1⟩
  have hB1 := joins hB0 hb1
  go_wp2_with fail
  refine (toIntS_any _ l1 _ (hv1.below hB1) hl1).mono ?_
  rintro e w2 ⟨v2', rfl, ho2, hb2⟩
  have hB2 := joins hB1 hb2
  go_wp2_with fail
  refine (HS.out _ _ _ (ho1.below hb2).is ho2.is).mono ?_
  rintro e w3 ⟨rfl, hb3⟩
  have hB3 := joins hB2 hb3
  go_wp2_with fail
  refine (toIntS_any _ l0 _ (hv0.below (belowa hB3 _)) hl0).mono ?_
  rintro e w4 ⟨v4', rfl, ho4, hb4⟩
  have hB4 := joins (belowa hB3 _) hb4
  have kr3 := keepc hb4 (cell_new0 _ _ _ _)
  have kq3 := keepc hb4 (cell_new1 _ _ _ _)
  go_wp2_with fail
  refine (toIntS_any _ l1 _ (hv1.below hB4) hl1).mono ?_
  rintro e w5 ⟨v5', rfl, ho5, hb5⟩
  have hB5 := joins hB4 hb5
  have kr3 := keepc hb5 kr3
  have kq3 := keepc hb5 kq3
  go_wp2_with fail
  refine (HI.out _ _ _ (ho4.below hb5).is ho5.is).mono ?_
  rintro e w6 ⟨rfl, hb6⟩
  have hB6 := joins hB5 hb6
  have kr3 := keepc hb6 kr3
  have kq3 := keepc hb6 kq3
  have kr3a := keepa (.cells #[.int .i64 r0, .int .i64 q0] 24) kr3
  have kq3a := keepa (.cells #[.int .i64 r0, .int .i64 q0] 24) kq3
  go_wp2_with fail
  refine (eqGauss_same r0 q0 _).mono ?_
  rintro e w7 ⟨rfl, hb7⟩
  have hB7 := joins (belowa hB6 _) hb7
  have kr6 := keepc hb7 (cell_new0 _ _ _ _)
  have kq6 := keepc hb7 (cell_new1 _ _ _ _)
  have kr3 := keepc hb7 (keepa _ kr3)
  have kq3 := keepc hb7 (keepa _ kq3)
  go_wp2_with fail
  refine (toIntS_any _ l0 _ (hv0.below hB7) hl0).mono ?_
  rintro e w8 ⟨v8', rfl, ho8, hb8⟩
  have hB8 := joins hB7 hb8
  have kr3 := keepc hb8 kr3
  have kq3 := keepc hb8 kq3
  have kr6 := keepc hb8 kr6
  have kq6 := keepc hb8 kq6
  go_wp2_with fail
  refine (eqIntS_same _ _ l0 _ (((Own.alloc' ((ho4.below hb5).below hb6) _).below hb7).below hb8).is ho8.is).mono ?_
  rintro e w9 ⟨rfl, hb9⟩
  have hB9 := joins hB8 hb9
  have kr3 := keepc hb9 kr3
  have kq3 := keepc hb9 kq3
  have kr6 := keepc hb9 kr6
  have kq6 := keepc hb9 kq6
  go_wp2_with fail
  refine (toIntS_any _ l1 _ (hv1.below hB9) hl1).mono ?_
  rintro e w10 ⟨v10', rfl, ho10, hb10⟩
  have hB10 := joins hB9 hb10
  have kr3 := keepc hb10 kr3
  have kq3 := keepc hb10 kq3
  have kr6 := keepc hb10 kr6
  have kq6 := keepc hb10 kq6
  go_wp2_with fail
  refine (eqIntS_same _ _ l1 _ (((((Own.alloc' (ho5.below hb6) _).below hb7).below hb8).below hb9).below hb10).is ho10.is).mono ?_
  rintro e w11 ⟨rfl, hb11⟩
  have hB11 := joins hB10 hb11
  have kr3 := keepc hb11 kr3
  have kq3 := keepc hb11 kq3
  have kr6 := keepc hb11 kr6
  have kq6 := keepc hb11 kq6
  go_wp2_with fail
  go_returns
  exact ⟨rfl, hB11⟩

set_option maxRecDepth 100000 in
theorem periodicAt_law (w : World) (a0 : Option Addr) (c0 : Nat) (l0 : List Int) (hv0 : IS w (.slice a0 l0.length c0) l0) (a1 : Option Addr) (c1 : Nat) (l1 : List Int) (hv1 : IS w (.slice a1 l1.length c1) l1) (x2 : Int) (r0 : Int) (q0 : Int) (r1 : Bool)
    (hs : ∀ (v0 : Value) (v1 : Value) (w : World), IS w v0 l0 → IS w v1 l1 → l0.length ≤ 1048576 → l1.length ≤ 1048576 → Calls Try.prog 15 #[v0, v1, .int .i64 x2] w (Ret w (.tuple #[.agg #[.int .i64 r0, .int .i64 q0], .bool r1])))
    (hi : ∀ (v0 : Value) (v1 : Value) (w : World), IS w v0 l0 → IS w v1 l1 → l0.length ≤ 1048576 → l1.length ≤ 1048576 → Calls Try.prog 16 #[v0, v1, .int .i64 x2] w (Ret w (.tuple #[.agg #[.int .i64 r0, .int .i64 q0], .bool r1]))) :
    Calls Try.prog 4 #[.slice a0 l0.length c0, .slice a1 l1.length c1, .int .i64 x2] w (Ret w (.bool true)) := by
  by_cases hl0 : l0.length ≤ 1048576
  · skip
    by_cases hl1 : l1.length ≤ 1048576
    · skip
      exact periodicAt_walk w a0 c0 l0 hl0 hv0 a1 c1 l1 hl1 hv1 x2 r0 q0 r1 (fun v0 v1 w h0 h1 => hs v0 v1 w h0 h1 hl0 hl1) (fun v0 v1 w h0 h1 => hi v0 v1 w h0 h1 hl0 hl1)
    · clear hs hi
      go_enter Try.func4, Try.ntmps4
      go_wp2_with fail
      go_returns
      exact ⟨rfl, by go_grown⟩
  · clear hs hi
    go_enter Try.func4, Try.ntmps4
    go_wp2_with fail
    go_returns
    exact ⟨rfl, by go_grown⟩
end Go.Proofs.Ytmckophclehkpaa
