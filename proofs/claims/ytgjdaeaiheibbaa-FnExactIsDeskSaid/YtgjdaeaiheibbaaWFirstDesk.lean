/- The walk of the law FnExactFirstDesk. -/
import Derived.Test.YtgjdaeaiheibbaaDk
namespace Go.Proofs.Ytgjdaeaiheibbaa
set_option maxRecDepth 100000
open Go.RowKit

theorem DO.shape {w : World} {B : Nat} {v : Value} {l m : List Int} (h : DO w B v l m) : ∃ a a' b b', v = .agg #[.slice a l.length a', .slice b m.length b'] := by
  obtain ⟨a, b, rfl, h1, h2, -⟩ := h
  obtain ⟨p, p', rfl⟩ := h1.is.shape
  obtain ⟨q, q', rfl⟩ := h2.is.shape
  exact ⟨p, p', q, q', rfl⟩
set_option maxRecDepth 100000 in
set_option maxHeartbeats 2000000 in
theorem firstDesk_law (w : World) : Calls Try.prog 3 #[] w (Ret w (.bool true)) := by
  have E5 := Lib.hid (show (1 : Int) + (([0, 0] : List Int).length : Int) + (([0, 2] : List Int).length : Int) = 5 from rfl)
  go_enter Try.func3, Try.ntmps3
  go_wp2_with fail
  refine (sfirstDesk w).mono ?_
  rintro e w1 ⟨v1, rfl, ho1, hb1⟩
  obtain ⟨x1, x1', y1, y1', hv1⟩ := ho1.shape
  have e2 : ([0, 0] : List Int).length = 2 := rfl
  have e3 : ([0, 2] : List Int).length = 2 := rfl
  have E2 := Lib.hid e2
  have E3 := Lib.hid e3
  rw [e2, e3] at hv1
  clear e2 e3
  subst hv1
  have p0 := cell_new0 w1 (.slice x1 2 x1') (.slice y1 2 y1') 24
  have p1 := cell_new1 w1 (.slice x1 2 x1') (.slice y1 2 y1') 24
  have O1 := Lib.hid (ho1.below (alloc_below w1 (.cells #[.slice x1 2 x1', .slice y1 2 y1'] 24)))
  have M1 := O1
  have B1 := Lib.hid (belowa hb1 (.cells #[.slice x1 2 x1', .slice y1 2 y1'] 24))
  have HQ := Lib.hid (show w1.heap.size < (w1.alloc (.cells #[.slice x1 2 x1', .slice y1 2 y1'] 24)).heap.size by simp)
  clear ho1 hb1
  go_wp2_with fail
  refine (ifirstDesk _).mono ?_
  rintro e w2 ⟨v2, rfl, ho2, hb2⟩
  obtain ⟨x2, x2', y2, y2', hv2⟩ := ho2.shape
  rw [E2.out, E3.out] at hv2
  subst hv2
  have p0 := keepa (.cells #[.slice x2 2 x2', .slice y2 2 y2'] 24) (keepc hb2 p0)
  have p1 := keepa (.cells #[.slice x2 2 x2', .slice y2 2 y2'] 24) (keepc hb2 p1)
  have r0 := cell_new0 w2 (.slice x2 2 x2') (.slice y2 2 y2') 24
  have r1 := cell_new1 w2 (.slice x2 2 x2') (.slice y2 2 y2') 24
  have N2 := Lib.hid ho2
  have O1 := Lib.hid ((O1.out.below hb2).below (alloc_below w2 (.cells #[.slice x2 2 x2', .slice y2 2 y2'] 24)))
  have O2 := Lib.hid (ho2.below (alloc_below w2 (.cells #[.slice x2 2 x2', .slice y2 2 y2'] 24)))
  have B2 := Lib.hid (belowa (joins B1.out hb2) (.cells #[.slice x2 2 x2', .slice y2 2 y2'] 24))
  clear ho2 hb2
  go_wp2_with fail
  refine (eqDesk_same _ _ [0, 0] [0, 2] _ O2.out.is O1.out.is).mono ?_
  rintro e w3 ⟨rfl, hb3⟩
  have p0 := keepc hb3 p0
  have p1 := keepc hb3 p1
  have r0 := keepc hb3 r0
  have r1 := keepc hb3 r1
  have O1 := Lib.hid (O1.out.below hb3)
  have O2 := Lib.hid (O2.out.below hb3)
  have B3 := Lib.hid (joins B2.out hb3)
  clear hb3
  go_wp2_with fail
  refine (markDesk_own _ _ [0, 0] [0, 2] 1 _ O2.out (by omega) (by decide)).mono ?_
  rintro e w4 ⟨rfl, ho4, ht4⟩
  rw [E5.out]
  have p0 := turns_cell ht4 O2.out p0 HQ.out
  have p1 := turns_cell ht4 O2.out p1 HQ.out
  have r0 := turns_cell' ht4 N2.out r0 (Nat.le_refl _)
  have r1 := turns_cell' ht4 N2.out r1 (Nat.le_refl _)
  have O1 := Lib.hid (O1.out.before ht4 M1.out O2.out (Nat.le_refl _))
  have B4 := Lib.hid (turns_below B3.out ht4 O2.out B1.out.size)
  have O2 := Lib.hid ho4
  clear ho4 ht4
  go_wp2_with fail
  refine (heldDesk_marks _ 1 2 2 _ O2.out.is (by omega) (by decide)).mono ?_
  rintro e w5 ⟨rfl, hb5⟩
  have p0 := keepc hb5 p0
  have p1 := keepc hb5 p1
  have r0 := keepc hb5 r0
  have r1 := keepc hb5 r1
  have O1 := Lib.hid (O1.out.below hb5)
  have O2 := Lib.hid (O2.out.below hb5)
  have B5 := Lib.hid (joins B4.out hb5)
  clear hb5
  go_wp2_with fail
  refine (ifirstDesk _).mono ?_
  rintro e w6 ⟨v6, rfl, ho6, hb6⟩
  obtain ⟨x6, x6', y6, y6', hv6⟩ := ho6.shape
  rw [E2.out, E3.out] at hv6
  subst hv6
  have p0 := keepa (.cells #[.slice x6 2 x6', .slice y6 2 y6'] 24) (keepc hb6 p0)
  have p1 := keepa (.cells #[.slice x6 2 x6', .slice y6 2 y6'] 24) (keepc hb6 p1)
  have r0 := keepa (.cells #[.slice x6 2 x6', .slice y6 2 y6'] 24) (keepc hb6 r0)
  have r1 := keepa (.cells #[.slice x6 2 x6', .slice y6 2 y6'] 24) (keepc hb6 r1)
  have s0 := cell_new0 w6 (.slice x6 2 x6') (.slice y6 2 y6') 24
  have s1 := cell_new1 w6 (.slice x6 2 x6') (.slice y6 2 y6') 24
  have O1 := Lib.hid ((O1.out.below hb6).below (alloc_below w6 (.cells #[.slice x6 2 x6', .slice y6 2 y6'] 24)))
  have O2 := Lib.hid ((O2.out.below hb6).below (alloc_below w6 (.cells #[.slice x6 2 x6', .slice y6 2 y6'] 24)))
  have O6 := Lib.hid (ho6.below (alloc_below w6 (.cells #[.slice x6 2 x6', .slice y6 2 y6'] 24)))
  have B6 := Lib.hid (belowa (joins B5.out hb6) (.cells #[.slice x6 2 x6', .slice y6 2 y6'] 24))
  clear ho6 hb6
  go_wp2_with fail
  refine (eqDesk_same _ _ [0, 0] [0, 2] _ O6.out.is O1.out.is).mono ?_
  rintro e w7 ⟨rfl, hb7⟩
  have r0 := keepc hb7 r0
  have r1 := keepc hb7 r1
  have O2 := Lib.hid (O2.out.below hb7)
  have B7 := Lib.hid (joins B6.out hb7)
  clear hb7
  go_wp2_with fail
  refine (heldDesk_marks _ 1 2 2 _ O2.out.is (by omega) (by decide)).mono ?_
  rintro e w8 ⟨rfl, hb8⟩
  have B8 := Lib.hid (joins B7.out hb8)
  clear hb8
  go_wp2_with fail
  go_returns
  exact ⟨rfl, B8.out⟩
end Go.Proofs.Ytgjdaeaiheibbaa
