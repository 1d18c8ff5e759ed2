/- The walk of the law FnExactValueAtRoot: out of the contracts of the two functions. -/
import Derived.Test.YtmckophclehkpaaEqG
namespace Go.Proofs.Ytmckophclehkpaa
open Go.RowKit

set_option maxRecDepth 100000 in
set_option maxHeartbeats 4000000 in
theorem valueAtRoot_walk (w : World) (a0 : Option Addr) (c0 : Nat) (l0 : List Int) (hl0 : l0.length ≤ 1048576) (hv0 : IS w (.slice a0 l0.length c0) l0) (x1 : Int) (r0 : Int) (q0 : Int) (r1 : Bool)
    (hs : ∀ (v0 : Value) (w : World), IS w v0 l0 → Calls Try.prog 27 #[v0, .int .i64 x1] w (Ret w (.tuple #[.agg #[.int .i64 r0, .int .i64 q0], .bool r1])))
    (hi : ∀ (v0 : Value) (w : World), IS w v0 l0 → Calls Try.prog 28 #[v0, .int .i64 x1] w (Ret w (.tuple #[.agg #[.int .i64 r0, .int .i64 q0], .bool r1]))) :
    Calls Try.prog 8 #[.slice a0 l0.length c0, .int .i64 x1] w (Ret w (.bool true)) := by
  have HS := Lib.hid hs
  have HI := Lib.hid hi
  clear hs hi
  have hB0 : Below w.heap.size w w := Below.refl _ _
  go_enter Try.func8, Try.ntmps8
  go_wp2_with fail
  refine (toIntS_any _ l0 _ hv0 hl0).mono ?_
  rintro e w1 ⟨v1', rfl, ho1, hb1⟩
  have hB1 := joins hB0 hb1
  go_wp2_with fail
  refine (HS.out _ _ ho1.is).mono ?_
  rintro e w2 ⟨rfl, hb2⟩
  have hB2 := joins hB1 hb2
  go_wp2_with fail
  refine (toIntS_any _ l0 _ (hv0.below (belowa hB2 _)) hl0).mono ?_
  rintro e w3 ⟨v3', rfl, ho3, hb3⟩
  have hB3 := joins (belowa hB2 _) hb3
  have kr2 := keepc hb3 (cell_new0 _ _ _ _)
  have kq2 := keepc hb3 (cell_new1 _ _ _ _)
  go_wp2_with fail
  refine (HI.out _ _ ho3.is).mono ?_
  rintro e w4 ⟨rfl, hb4⟩
  have hB4 := joins hB3 hb4
  have kr2 := keepc hb4 kr2
  have kq2 := keepc hb4 kq2
  have kr2a := keepa (.cells #[.int .i64 r0, .int .i64 q0] 24) kr2
  have kq2a := keepa (.cells #[.int .i64 r0, .int .i64 q0] 24) kq2
  go_wp2_with fail
  refine (eqGauss_same r0 q0 _).mono ?_
  rintro e w5 ⟨rfl, hb5⟩
  have hB5 := joins (belowa hB4 _) hb5
  have kr4 := keepc hb5 (cell_new0 _ _ _ _)
  have kq4 := keepc hb5 (cell_new1 _ _ _ _)
  have kr2 := keepc hb5 (keepa _ kr2)
  have kq2 := keepc hb5 (keepa _ kq2)
  go_wp2_with fail
  refine (toIntS_any _ l0 _ (hv0.below hB5) hl0).mono ?_
  rintro e w6 ⟨v6', rfl, ho6, hb6⟩
  have hB6 := joins hB5 hb6
  have kr2 := keepc hb6 kr2
  have kq2 := keepc hb6 kq2
  have kr4 := keepc hb6 kr4
  have kq4 := keepc hb6 kq4
  go_wp2_with fail
  refine (eqIntS_same _ _ l0 _ (((Own.alloc' (ho3.below hb4) _).below hb5).below hb6).is ho6.is).mono ?_
  rintro e w7 ⟨rfl, hb7⟩
  have hB7 := joins hB6 hb7
  have kr2 := keepc hb7 kr2
  have kq2 := keepc hb7 kq2
  have kr4 := keepc hb7 kr4
  have kq4 := keepc hb7 kq4
  go_wp2_with fail
  go_returns
  exact ⟨rfl, hB7⟩

set_option maxRecDepth 100000 in
theorem valueAtRoot_law (w : World) (a0 : Option Addr) (c0 : Nat) (l0 : List Int) (hv0 : IS w (.slice a0 l0.length c0) l0) (x1 : Int) (r0 : Int) (q0 : Int) (r1 : Bool)
    (hs : ∀ (v0 : Value) (w : World), IS w v0 l0 → l0.length ≤ 1048576 → Calls Try.prog 27 #[v0, .int .i64 x1] w (Ret w (.tuple #[.agg #[.int .i64 r0, .int .i64 q0], .bool r1])))
    (hi : ∀ (v0 : Value) (w : World), IS w v0 l0 → l0.length ≤ 1048576 → Calls Try.prog 28 #[v0, .int .i64 x1] w (Ret w (.tuple #[.agg #[.int .i64 r0, .int .i64 q0], .bool r1]))) :
    Calls Try.prog 8 #[.slice a0 l0.length c0, .int .i64 x1] w (Ret w (.bool true)) := by
  by_cases hl0 : l0.length ≤ 1048576
  · skip
    exact valueAtRoot_walk w a0 c0 l0 hl0 hv0 x1 r0 q0 r1 (fun v0 w h0 => hs v0 w h0 hl0) (fun v0 w h0 => hi v0 w h0 hl0)
  · clear hs hi
    go_enter Try.func8, Try.ntmps8
    go_wp2_with fail
    go_returns
    exact ⟨rfl, by go_grown⟩
end Go.Proofs.Ytmckophclehkpaa
