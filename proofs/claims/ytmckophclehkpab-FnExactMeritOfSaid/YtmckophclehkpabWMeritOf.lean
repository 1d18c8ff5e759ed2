/- The walk of the law FnExactMeritOf: out of the contracts of the two functions. -/
import Derived.Test.YtmckophclehkpabObj
import Derived.Test.YtmckophclehkpabEqR
namespace Go.Proofs.Ytmckophclehkpab
open Go.RowKit

set_option maxRecDepth 100000 in
set_option maxHeartbeats 4000000 in
theorem meritOf_walk (w : World) (a0 : Option Addr) (c0 : Nat) (l0 : List Int) (hl0 : l0.length ≤ 1048576) (hv0 : IS w (.slice a0 l0.length c0) l0) (r0 : Int) (q0 : Int) (r1 : Bool)
    (hs : ∀ (v0 : Value) (w : World), IS w v0 l0 → Calls Try.prog 14 #[v0] w (Ret w (.tuple #[.agg #[.int .i64 r0, .int .i64 q0], .bool r1])))
    (hi : ∀ (v0 : Value) (w : World), IS w v0 l0 → Calls Try.prog 15 #[v0] w (Ret w (.tuple #[.agg #[.int .i64 r0, .int .i64 q0], .bool r1]))) :
    Calls Try.prog 4 #[.slice a0 l0.length c0] w (Ret w (.bool true)) := by
  have HS := Lib.hid hs
  have HI := Lib.hid hi
  clear hs hi
  have hB0 : Below w.heap.size w w := Below.refl _ _
  go_enter Try.func4, Try.ntmps4
  go_wp2_with fail
  refine (toIntS_any _ l0 _ hv0 hl0).mono ?_
  rintro e w1 ⟨y1, rfl, ho1, hb1⟩
  have hB1 := joins hB0 hb1
  have o1_y1 := OS.of ho1
  have lo_y1 : ∀ k, y1.ownBlock = some k → w.heap.size ≤ k := fun k hk => by have l_ := (ho1.lt k hk).1; (try simp only [World.size_alloc] at l_); omega
  have hi_y1 := o1_y1.hi
  go_wp2_with fail
  refine (HS.out _ _ (o1_y1).is).mono ?_
  rintro e w2 ⟨rfl, hb2⟩
  have hB2 := joins hB1 hb2
  have o2_y1 := (o1_y1).below hb2
  go_wp2_with fail
  refine (toIntS_any _ l0 _ (hv0.below (belowa hB2 _)) hl0).mono ?_
  rintro e w3 ⟨y3, rfl, ho3, hb3⟩
  have hB3 := joins (belowa hB2 _) hb3
  have kr2 := keepc hb3 (cell_new0 _ _ _ _)
  have kq2 := keepc hb3 (cell_new1 _ _ _ _)
  have o3_y1 := (o2_y1.alloc _).below hb3
  have o3_y3 := OS.of ho3
  have lo_y3 : ∀ k, y3.ownBlock = some k → w2.heap.size ≤ k := fun k hk => by have l_ := (ho3.lt k hk).1; (try simp only [World.size_alloc] at l_); omega
  have hi_y3 := o3_y3.hi
  go_wp2_with fail
  refine (HI.out _ _ (o3_y3).is).mono ?_
  rintro e w4 ⟨rfl, hb4⟩
  have hB4 := joins hB3 hb4
  have kr2 := keepc hb4 kr2
  have kq2 := keepc hb4 kq2
  have o4_y1 := (o3_y1).below hb4
  have o4_y3 := (o3_y3).below hb4
  have kr2a := keepa (.cells #[.int .i64 r0, .int .i64 q0] 29) kr2
  have kq2a := keepa (.cells #[.int .i64 r0, .int .i64 q0] 29) kq2
  go_wp2_with fail
  refine (eqRatio_same r0 q0 _).mono ?_
  rintro e w5 ⟨rfl, hb5⟩
  have hB5 := joins (belowa hB4 _) hb5
  have kr4 := keepc hb5 (cell_new0 _ _ _ _)
  have kq4 := keepc hb5 (cell_new1 _ _ _ _)
  have kr2 := keepc hb5 (keepa _ kr2)
  have kq2 := keepc hb5 (keepa _ kq2)
  have o5_y1 := (o4_y1.alloc _).below hb5
  have o5_y3 := (o4_y3.alloc _).below hb5
  go_wp2_with fail
  refine (toIntS_any _ l0 _ (hv0.below hB5) hl0).mono ?_
  rintro e w6 ⟨y6, rfl, ho6, hb6⟩
  have hB6 := joins hB5 hb6
  have kr2 := keepc hb6 kr2
  have kq2 := keepc hb6 kq2
  have kr4 := keepc hb6 kr4
  have kq4 := keepc hb6 kq4
  have o6_y1 := (o5_y1).below hb6
  have o6_y3 := (o5_y3).below hb6
  have o6_y6 := OS.of ho6
  have lo_y6 : ∀ k, y6.ownBlock = some k → w5.heap.size ≤ k := fun k hk => by have l_ := (ho6.lt k hk).1; (try simp only [World.size_alloc] at l_); omega
  have hi_y6 := o6_y6.hi
  go_wp2_with fail
  refine (eqIntS_same _ _ l0 _ (o6_y3).is (o6_y6).is).mono ?_
  rintro e w7 ⟨rfl, hb7⟩
  have hB7 := joins hB6 hb7
  have kr2 := keepc hb7 kr2
  have kq2 := keepc hb7 kq2
  have kr4 := keepc hb7 kr4
  have kq4 := keepc hb7 kq4
  have o7_y1 := (o6_y1).below hb7
  have o7_y3 := (o6_y3).below hb7
  have o7_y6 := (o6_y6).below hb7
  go_wp2_with fail
  go_returns
  exact ⟨rfl, hB7⟩

set_option maxRecDepth 100000 in
theorem meritOf_law (w : World) (a0 : Option Addr) (c0 : Nat) (l0 : List Int) (hv0 : IS w (.slice a0 l0.length c0) l0) (r0 : Int) (q0 : Int) (r1 : Bool)
    (hs : ∀ (v0 : Value) (w : World), IS w v0 l0 → l0.length ≤ 1048576 → Calls Try.prog 14 #[v0] w (Ret w (.tuple #[.agg #[.int .i64 r0, .int .i64 q0], .bool r1])))
    (hi : ∀ (v0 : Value) (w : World), IS w v0 l0 → l0.length ≤ 1048576 → Calls Try.prog 15 #[v0] w (Ret w (.tuple #[.agg #[.int .i64 r0, .int .i64 q0], .bool r1]))) :
    Calls Try.prog 4 #[.slice a0 l0.length c0] w (Ret w (.bool true)) := by
  by_cases hl0 : l0.length ≤ 1048576
  · skip
    exact meritOf_walk w a0 c0 l0 hl0 hv0 r0 q0 r1 (fun v0 w h0 => hs v0 w h0 hl0) (fun v0 w h0 => hi v0 w h0 hl0)
  · clear hs hi
    go_enter Try.func4, Try.ntmps4
    go_wp2_with fail
    go_returns
    exact ⟨rfl, by go_grown⟩
end Go.Proofs.Ytmckophclehkpab
