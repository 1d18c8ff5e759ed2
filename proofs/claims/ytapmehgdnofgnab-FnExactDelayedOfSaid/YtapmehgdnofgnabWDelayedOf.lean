/- The walk of the law FnExactDelayedOf: out of the contracts of the two functions. -/
import Derived.Test.YtapmehgdnofgnabGsn
import Derived.Test.YtapmehgdnofgnabRg
namespace Go.Proofs.Ytapmehgdnofgnab
set_option maxRecDepth 100000
open Go.RowKit

theorem Touch.cell {w w' : World} {S : Nat → Prop} {a : Addr} {v : Value} (ht : Touch w w' S) (h : w.cell? a = some v) (hn : ¬ S a.block) : w'.cell? a = some v := by
  have hb := ht.block a.block (World.block_lt_of_cell? w a h) hn
  unfold World.cell? at h ⊢
  rw [hb]
  exact h
set_option maxHeartbeats 1000000 in
theorem toGaussN_any (a b : Int) (w : World) : Calls Try.prog 26 #[.agg #[.int .i64 a, .int .i64 b]] w (Ret w (.agg #[.int .i64 a, .int .i64 b])) := by
  go_enter Try.func26, Try.ntmps26
  go_wp2
  go_returns
  exact ⟨rfl, by go_grown⟩
set_option maxRecDepth 100000 in
set_option maxHeartbeats 4000000 in
theorem delayedOf_walk (w : World) (a0 : Option Addr) (c0 : Nat) (l0 : List Int) (hl0 : l0.length ≤ 1048576) (hv0 : IS w (.slice a0 l0.length c0) l0) (a1 b1 : Int) (x2 : Int) (x3 : Int) (out0 : List (Int × Int)) (hout0 : out0.length ≤ 1048576) (r1 : Bool)
    (hs : ∀ (v0 : Value) (w : World), IS w v0 l0 → Calls Try.prog 25 #[v0, .agg #[.int .i64 a1, .int .i64 b1], .int .i64 x2, .int .i64 x3] w (MakesGB w out0 r1))
    (hi : ∀ (v0 : Value) (w : World), IS w v0 l0 → Calls Try.prog 27 #[v0, .agg #[.int .i64 a1, .int .i64 b1], .int .i64 x2, .int .i64 x3] w (MakesGB w out0 r1)) :
    Calls Try.prog 5 #[.slice a0 l0.length c0, .agg #[.int .i64 a1, .int .i64 b1], .int .i64 x2, .int .i64 x3] w (Ret w (.bool true)) := by
  have HS := Lib.hid hs
  have HI := Lib.hid hi
  have HT := Lib.hid (toGaussN_any a1 b1)
  clear hs hi
  obtain ⟨wb, hwb⟩ : ∃ w', w' = w.alloc (.cells #[.int .i64 a1, .int .i64 b1] 44) := ⟨_, rfl⟩
  have hbb : Below w.heap.size w wb := by rw [hwb]; exact belowa (Below.refl _ _) _
  have HCC0 := Lib.hid (And.intro (show wb.cell? ⟨w.heap.size, 0, none⟩ = some (.int .i64 a1) by rw [hwb]; exact cell_new0 _ _ _ _) (show wb.cell? ⟨w.heap.size, 1, none⟩ = some (.int .i64 b1) by rw [hwb]; exact cell_new1 _ _ _ _))
  have HB1 := Lib.hid hbb
  have HVwb := Lib.hid (hv0.below hbb)
  clear hbb
  go_enter Try.func5, Try.ntmps5
  go_wp2_with fail
  rw [← hwb]
  clear hwb
  refine wp_region_held_drew (S := (fun w' => World.grownBy wb w' none)) (by kernel_rfl) (grownDrew (World.grownBy.refl _ _)) ?_
  obtain ⟨d1, hdw⟩ : ∃ w', w' = wb.drew := ⟨_, rfl⟩
  rw [← hdw]
  have hb : Below wb.heap.size wb d1 := by rw [hdw]; exact belowN (Below.refl _ _) 1
  have F1_B := Lib.hid (joins HB1.out hb)
  have F1_C := Lib.hid (And.intro (keepc hb HCC0.out.1) (keepc hb HCC0.out.2))
  have F1_V := Lib.hid (HVwb.out.below hb)
  clear hdw hb
  intro hHeld
  refine' wpAnyH_take (i := 0) (v := _) rfl (by kernel_rfl) (by kernel_rfl) (by kernel_rfl) (fun _ _ _ h => h) (Or.inl ⟨by rfl, ?hy1⟩) (by assumption) ?rest1
  case hy1 =>
    intro w h
    (try clear h)
    go_simp
    (try with_reducible rfl)
  (try simp only [Act.put, List.getElem_toArray, List.getElem_cons_zero, List.setIfInBounds_toArray, List.set_cons_zero, List.set_cons_succ])
  refine' wpAnyH_take (i := 2) (v := _) rfl (by kernel_rfl) (by kernel_rfl) (by kernel_rfl) (fun _ _ _ h => h) (Or.inl ⟨by rfl, ?hy2⟩) (by assumption) ?rest2
  case hy2 =>
    intro w h
    have c1 := cellR h HCC0.out.1 (by simp)
    have c2 := cellR h HCC0.out.2 (by simp)
    (try clear h)
    go_simp
    (try with_reducible rfl)
  (try simp only [Act.put, List.getElem_toArray, List.getElem_cons_zero, List.getElem_cons_succ, List.setIfInBounds_toArray, List.set_cons_zero, List.set_cons_succ])
  refine' wpAnyH_take (i := 4) (v := _) rfl (by kernel_rfl) (by kernel_rfl) (by kernel_rfl) (fun _ _ _ h => h) (Or.inl ⟨by rfl, ?hy3⟩) (by assumption) ?rest3
  case hy3 =>
    intro w h
    (try clear h)
    go_simp
    (try with_reducible rfl)
  (try simp only [Act.put, List.getElem_toArray, List.getElem_cons_zero, List.getElem_cons_succ, List.setIfInBounds_toArray, List.set_cons_zero, List.set_cons_succ])
  refine' wpAnyH_take (i := 5) (v := _) rfl (by kernel_rfl) (by kernel_rfl) (by kernel_rfl) (fun _ _ _ h => h) (Or.inl ⟨by rfl, ?hy4⟩) (by assumption) ?rest4
  case hy4 =>
    intro w h
    (try clear h)
    go_simp
    (try with_reducible rfl)
  (try simp only [Act.put, List.getElem_toArray, List.getElem_cons_zero, List.getElem_cons_succ, List.setIfInBounds_toArray, List.set_cons_zero, List.set_cons_succ])
  refine wpAnyH_ready (rs := [1]) (by kernel_rfl) (by simp) ?_
  refine AllReadyH.cons rfl (fun K hK => ?_) AllReadyH.nil
  go_simp
  refine (toIntS_any _ l0 _ F1_V.out hl0).mono ?_
  rintro e d2 ⟨ya, rfl, ho, hb⟩
  have F2_B := Lib.hid (joins F1_B.out hb)
  have F2_C := Lib.hid (And.intro (keepc hb F1_C.out.1) (keepc hb F1_C.out.2))
  have F2_V := Lib.hid (F1_V.out.below hb)
  have F2_A := Lib.hid (OS.of ho)
  have hHeld := grownB hHeld hb
  clear hb
  refine hK.out _ _ hHeld (fun hHeld => ?_)
  clear hK K
  (try simp only [Act.put, List.getElem_toArray, List.getElem_cons_zero, List.getElem_cons_succ, List.setIfInBounds_toArray, List.set_cons_zero, List.set_cons_succ])
  refine wpAnyH_ready (rs := [3]) (by kernel_rfl) (by simp) ?_
  refine AllReadyH.cons rfl (fun K hK => ?_) AllReadyH.nil
  go_simp
  refine (HT.out _).mono ?_
  rintro e d3 ⟨rfl, hb⟩
  have F3_B := Lib.hid (joins F2_B.out hb)
  have F3_C := Lib.hid (And.intro (keepc hb F2_C.out.1) (keepc hb F2_C.out.2))
  have F3_V := Lib.hid (F2_V.out.below hb)
  have F3_A := Lib.hid (F2_A.out.below hb)
  have hHeld := grownB hHeld hb
  clear hb
  refine hK.out _ _ hHeld (fun hHeld => ?_)
  clear hK K
  (try simp only [Act.put, List.getElem_toArray, List.getElem_cons_zero, List.getElem_cons_succ, List.setIfInBounds_toArray, List.set_cons_zero, List.set_cons_succ])
  refine wpAnyH_ready (rs := [6]) (by kernel_rfl) (by simp) ?_
  refine AllReadyH.cons rfl (fun K hK => ?_) AllReadyH.nil
  go_simp
  refine (HS.out _ _ F3_A.out.is).mono ?_
  rintro e d4 ⟨yb, rfl, ho, hb⟩
  have F4_B := Lib.hid (joins F3_B.out hb)
  have F4_C := Lib.hid (And.intro (keepc hb F3_C.out.1) (keepc hb F3_C.out.2))
  have F4_V := Lib.hid (F3_V.out.below hb)
  have F4_A := Lib.hid (F3_A.out.below hb)
  have LB := Lib.hid (show ∀ k, yb.ownBlock = some k → d3.heap.size ≤ k from fun k hk => (ho.lt k hk).1)
  have F4_O := Lib.hid (OG.of ho)
  have hHeld := grownB hHeld hb
  clear hb
  refine hK.out _ _ hHeld (fun hHeld => ?_)
  clear hK K
  (try simp only [Act.put, List.getElem_toArray, List.getElem_cons_zero, List.getElem_cons_succ, List.setIfInBounds_toArray, List.set_cons_zero, List.set_cons_succ])
  refine' wpAnyH_take (i := 7) (v := _) rfl (by kernel_rfl) (by kernel_rfl) (by kernel_rfl) (fun _ _ _ h => h) (Or.inl ⟨by rfl, ?hy5⟩) (by assumption) ?rest5
  case hy5 =>
    intro w h
    (try clear h)
    go_simp
    (try with_reducible rfl)
  (try simp only [Act.put, List.getElem_toArray, List.getElem_cons_zero, List.getElem_cons_succ, List.setIfInBounds_toArray, List.set_cons_zero, List.set_cons_succ])
  refine' wpAnyH_take (i := 8) (v := _) rfl (by kernel_rfl) (by kernel_rfl) (by kernel_rfl) (fun _ _ _ h => h) (Or.inl ⟨by rfl, ?hy6⟩) (by assumption) ?rest6
  case hy6 =>
    intro w h
    (try clear h)
    go_simp
    (try with_reducible rfl)
  (try simp only [Act.put, List.getElem_toArray, List.getElem_cons_zero, List.getElem_cons_succ, List.setIfInBounds_toArray, List.set_cons_zero, List.set_cons_succ])
  refine' wpAnyH_take (i := 9) (v := _) rfl (by kernel_rfl) (by kernel_rfl) (by kernel_rfl) (fun _ _ _ h => h) (Or.inl ⟨by rfl, ?hy7⟩) (by assumption) ?rest7
  case hy7 =>
    intro w h
    (try clear h)
    go_simp
    (try with_reducible rfl)
  (try simp only [Act.put, List.getElem_toArray, List.getElem_cons_zero, List.getElem_cons_succ, List.setIfInBounds_toArray, List.set_cons_zero, List.set_cons_succ])
  refine' wpAnyH_take (i := 10) (v := _) rfl (by kernel_rfl) (by kernel_rfl) (by kernel_rfl) (fun _ _ _ h => h) (Or.inl ⟨by rfl, ?hy8⟩) (by assumption) ?rest8
  case hy8 =>
    intro w h
    (try clear h)
    go_simp
    (try with_reducible rfl)
  (try simp only [Act.put, List.getElem_toArray, List.getElem_cons_zero, List.getElem_cons_succ, List.setIfInBounds_toArray, List.set_cons_zero, List.set_cons_succ])
  refine' wpAnyH_take (i := 11) (v := _) rfl (by kernel_rfl) (by kernel_rfl) (by kernel_rfl) (fun _ _ _ h => h) (Or.inl ⟨by rfl, ?hy9⟩) (by assumption) ?rest9
  case hy9 =>
    intro w h
    (try clear h)
    go_simp
    (try with_reducible rfl)
  (try simp only [Act.put, List.getElem_toArray, List.getElem_cons_zero, List.getElem_cons_succ, List.setIfInBounds_toArray, List.set_cons_zero, List.set_cons_succ])
  refine wpAnyH_done (by kernel_rfl) ?_ _
  have hB2 := F4_B.out
  have o2_y2 := F4_O.out
  have HCC := F4_C
  obtain ⟨w2, hw2⟩ : ∃ w', w' = d4 := ⟨_, rfl⟩
  rw [← hw2] at hB2 o2_y2 HCC ⊢
  have hb1 := hB2
  have hb2 : Below w2.heap.size w2 w2 := Below.refl _ _
  have hi_y2 := o2_y2.hi
  have HSZ := Lib.hid (show w.heap.size < w2.heap.size from World.block_lt_of_cell? w2 _ HCC.out.1)
  clear hw2 hHeld LB
  go_wp2_with fail
  refine (toIntS_any _ l0 _ (hv0.below hB2) hl0).mono ?_
  rintro e w3 ⟨y3, rfl, ho3, hb3⟩
  have hB3 := joins hB2 hb3
  have HCC := Lib.hid (And.intro (keepc hb3 HCC.out.1) (keepc hb3 HCC.out.2))
  have o3_y2 := (o2_y2).below hb3
  have o3_y3 := OS.of ho3
  have lo_y3 : ∀ k, y3.ownBlock = some k → w2.heap.size ≤ k := fun k hk => by have l_ := (ho3.lt k hk).1; (try simp only [World.size_alloc] at l_); omega
  have hi_y3 := o3_y3.hi
  have c1 := HCC.out.1
  have c2 := HCC.out.2
  go_wp2_with fail
  refine (HT.out _).mono ?_
  rintro e w3b ⟨rfl, hbg⟩
  have o3_y2 := o3_y2.below hbg
  have o3_y3 := o3_y3.below hbg
  have hB3 := joins hB3 hbg
  have hb3 := joins hb3 hbg
  have hi_y3 := o3_y3.hi
  have HCC := Lib.hid (And.intro (keepc hbg HCC.out.1) (keepc hbg HCC.out.2))
  clear c1 c2 hbg
  go_wp2_with fail
  refine (HI.out _ _ (o3_y3).is).mono ?_
  rintro e w4 ⟨y4, rfl, ho4, hb4⟩
  have hB4 := joins hB3 hb4
  have HCC := Lib.hid (And.intro (keepc hb4 HCC.out.1) (keepc hb4 HCC.out.2))
  have o4_y2 := (o3_y2).below hb4
  have o4_y3 := (o3_y3).below hb4
  have o4_y4 := OG.of ho4
  have lo_y4 : ∀ k, y4.ownBlock = some k → w3b.heap.size ≤ k := fun k hk => by have l_ := (ho4.lt k hk).1; (try simp only [World.size_alloc] at l_); omega
  have hi_y4 := o4_y4.hi
  go_wp2_with fail
  refine (eqGaussS_same _ _ out0 _ (o4_y4).is (o4_y2).is).mono ?_
  rintro e w5 ⟨rfl, hb5⟩
  have hB5 := joins hB4 hb5
  have HCC := Lib.hid (And.intro (keepc hb5 HCC.out.1) (keepc hb5 HCC.out.2))
  have o5_y2 := (o4_y2).below hb5
  have o5_y3 := (o4_y3).below hb5
  have o5_y4 := (o4_y4).below hb5
  go_wp2_with fail
  refine (toIntS_any _ l0 _ (hv0.below hB5) hl0).mono ?_
  rintro e w6 ⟨y6, rfl, ho6, hb6⟩
  have hB6 := joins hB5 hb6
  have HCC := Lib.hid (And.intro (keepc hb6 HCC.out.1) (keepc hb6 HCC.out.2))
  have o6_y2 := (o5_y2).below hb6
  have o6_y3 := (o5_y3).below hb6
  have o6_y4 := (o5_y4).below hb6
  have o6_y6 := OS.of ho6
  have lo_y6 : ∀ k, y6.ownBlock = some k → w5.heap.size ≤ k := fun k hk => by have l_ := (ho6.lt k hk).1; (try simp only [World.size_alloc] at l_); omega
  have hi_y6 := o6_y6.hi
  go_wp2_with fail
  refine (eqIntS_same _ _ l0 _ (o6_y3).is (o6_y6).is).mono ?_
  rintro e w7 ⟨rfl, hb7⟩
  have hB7 := joins hB6 hb7
  have HCC := Lib.hid (And.intro (keepc hb7 HCC.out.1) (keepc hb7 HCC.out.2))
  have o7_y2 := (o6_y2).below hb7
  have o7_y3 := (o6_y3).below hb7
  have o7_y4 := (o6_y4).below hb7
  go_wp2_with fail
  refine (o7_y3.mark (1) (by omega) (by omega)).mono ?_
  rintro e w8 ⟨rfl, o8_y3, ht8⟩
  have hB8 := tjoin hB7 ht8 (fun k hk => by have l_ := lo_y3 k hk; have s1_ := hb1.size; (try simp only [World.size_alloc] at s1_); have s2_ := hb2.size; (try simp only [World.size_alloc] at s2_); omega)
  have HNS := fun (e : y3.ownBlock = some w.heap.size) => (show False from by have l_ := lo_y3 _ e; have := HSZ.out; have s3_ := hb3.size; omega)
  have HCC := Lib.hid (And.intro (ht8.cell HCC.out.1 HNS) (ht8.cell HCC.out.2 HNS))
  have o8_y2 := o7_y2.touch ht8 (fun k h1 h2 => by have u_ := hi_y2 k h1; have l_ := lo_y3 k h2; omega)
  have o8_y4 := o7_y4.touch ht8 (fun k h1 h2 => by have u_ := hi_y3 k h2; have l_ := lo_y4 k h1; omega)
  go_wp2_with fail
  refine (eqGaussS_same _ _ out0 _ (o8_y4).is (o8_y2).is).mono ?_
  rintro e w9 ⟨rfl, hb9⟩
  have hB9 := joins hB8 hb9
  have HCC := Lib.hid (And.intro (keepc hb9 HCC.out.1) (keepc hb9 HCC.out.2))
  have o9_y2 := (o8_y2).below hb9
  have o9_y4 := (o8_y4).below hb9
  go_wp2_with fail
  refine (o9_y4.mark (1) (by omega) (by omega)).mono ?_
  rintro e w10 ⟨rfl, o10_y4, ht10⟩
  have hB10 := tjoin hB9 ht10 (fun k hk => by have l_ := lo_y4 k hk; have s1_ := hb1.size; (try simp only [World.size_alloc] at s1_); have s2_ := hb2.size; (try simp only [World.size_alloc] at s2_); have s3_ := hb3.size; (try simp only [World.size_alloc] at s3_); omega)
  have HNS := fun (e : y4.ownBlock = some w.heap.size) => (show False from by have l_ := lo_y4 _ e; have := HSZ.out; have s3_ := hb3.size; omega)
  have HCC := Lib.hid (And.intro (ht10.cell HCC.out.1 HNS) (ht10.cell HCC.out.2 HNS))
  have o10_y2 := o9_y2.touch ht10 (fun k h1 h2 => by have u_ := hi_y2 k h1; have l_ := lo_y4 k h2; have s3_ := hb3.size; (try simp only [World.size_alloc] at s3_); omega)
  go_wp2_with fail
  refine (o10_y4.held (by omega) (by omega)).mono ?_
  rintro e w11 ⟨rfl, hb11⟩
  have hB11 := joins hB10 hb11
  have HCC := Lib.hid (And.intro (keepc hb11 HCC.out.1) (keepc hb11 HCC.out.2))
  have o11_y2 := (o10_y2).below hb11
  have o11_y4 := (o10_y4).below hb11
  have c1 := HCC.out.1
  clear c1
  have HB11 := Lib.hid hB11
  have HVw11 := Lib.hid (hv0.below hB11)
  have KY2 := Lib.hid o11_y2
  have KY4 := Lib.hid o11_y4
  go_wp2_with fail
  refine wp_region_held_drew (S := (fun w' => World.grownBy w11 w' none)) (by kernel_rfl) (grownDrew (World.grownBy.refl _ _)) ?_
  obtain ⟨d1, hdw⟩ : ∃ w', w' = w11.drew := ⟨_, rfl⟩
  rw [← hdw]
  have hb : Below w11.heap.size w11 d1 := by rw [hdw]; exact belowN (Below.refl _ _) 1
  have F1_B := Lib.hid (joins HB11.out hb)
  have F1_C := Lib.hid (And.intro (keepc hb HCC.out.1) (keepc hb HCC.out.2))
  have F1_V := Lib.hid (HVw11.out.below hb)
  have F1_Y2 := Lib.hid (KY2.out.below hb)
  have F1_Y4 := Lib.hid (KY4.out.below hb)
  clear hdw hb
  intro hHeld
  refine' wpAnyH_take (i := 0) (v := _) rfl (by kernel_rfl) (by kernel_rfl) (by kernel_rfl) (fun _ _ _ h => h) (Or.inl ⟨by rfl, ?hy51⟩) (by assumption) ?rest51
  case hy51 =>
    intro w h
    (try clear h)
    go_simp
    (try with_reducible rfl)
  (try simp only [Act.put, List.getElem_toArray, List.getElem_cons_zero, List.setIfInBounds_toArray, List.set_cons_zero, List.set_cons_succ])
  refine' wpAnyH_take (i := 2) (v := _) rfl (by kernel_rfl) (by kernel_rfl) (by kernel_rfl) (fun _ _ _ h => h) (Or.inl ⟨by rfl, ?hy52⟩) (by assumption) ?rest52
  case hy52 =>
    intro w h
    have c1 := cellR h HCC.out.1 (by simp)
    have c2 := cellR h HCC.out.2 (by simp)
    (try clear h)
    go_simp
    (try with_reducible rfl)
  (try simp only [Act.put, List.getElem_toArray, List.getElem_cons_zero, List.getElem_cons_succ, List.setIfInBounds_toArray, List.set_cons_zero, List.set_cons_succ])
  refine' wpAnyH_take (i := 4) (v := _) rfl (by kernel_rfl) (by kernel_rfl) (by kernel_rfl) (fun _ _ _ h => h) (Or.inl ⟨by rfl, ?hy53⟩) (by assumption) ?rest53
  case hy53 =>
    intro w h
    (try clear h)
    go_simp
    (try with_reducible rfl)
  (try simp only [Act.put, List.getElem_toArray, List.getElem_cons_zero, List.getElem_cons_succ, List.setIfInBounds_toArray, List.set_cons_zero, List.set_cons_succ])
  refine' wpAnyH_take (i := 5) (v := _) rfl (by kernel_rfl) (by kernel_rfl) (by kernel_rfl) (fun _ _ _ h => h) (Or.inl ⟨by rfl, ?hy54⟩) (by assumption) ?rest54
  case hy54 =>
    intro w h
    (try clear h)
    go_simp
    (try with_reducible rfl)
  (try simp only [Act.put, List.getElem_toArray, List.getElem_cons_zero, List.getElem_cons_succ, List.setIfInBounds_toArray, List.set_cons_zero, List.set_cons_succ])
  refine wpAnyH_ready (rs := [1]) (by kernel_rfl) (by simp) ?_
  refine AllReadyH.cons rfl (fun K hK => ?_) AllReadyH.nil
  go_simp
  refine (toIntS_any _ l0 _ F1_V.out hl0).mono ?_
  rintro e d2 ⟨ya, rfl, ho, hb⟩
  have F2_B := Lib.hid (joins F1_B.out hb)
  have F2_C := Lib.hid (And.intro (keepc hb F1_C.out.1) (keepc hb F1_C.out.2))
  have F2_V := Lib.hid (F1_V.out.below hb)
  have F2_Y2 := Lib.hid (F1_Y2.out.below hb)
  have F2_Y4 := Lib.hid (F1_Y4.out.below hb)
  have F2_A := Lib.hid (OS.of ho)
  have hHeld := grownB hHeld hb
  clear hb
  refine hK.out _ _ hHeld (fun hHeld => ?_)
  clear hK K
  (try simp only [Act.put, List.getElem_toArray, List.getElem_cons_zero, List.getElem_cons_succ, List.setIfInBounds_toArray, List.set_cons_zero, List.set_cons_succ])
  refine wpAnyH_ready (rs := [3]) (by kernel_rfl) (by simp) ?_
  refine AllReadyH.cons rfl (fun K hK => ?_) AllReadyH.nil
  go_simp
  refine (HT.out _).mono ?_
  rintro e d3 ⟨rfl, hb⟩
  have F3_B := Lib.hid (joins F2_B.out hb)
  have F3_C := Lib.hid (And.intro (keepc hb F2_C.out.1) (keepc hb F2_C.out.2))
  have F3_V := Lib.hid (F2_V.out.below hb)
  have F3_Y2 := Lib.hid (F2_Y2.out.below hb)
  have F3_Y4 := Lib.hid (F2_Y4.out.below hb)
  have F3_A := Lib.hid (F2_A.out.below hb)
  have hHeld := grownB hHeld hb
  clear hb
  refine hK.out _ _ hHeld (fun hHeld => ?_)
  clear hK K
  (try simp only [Act.put, List.getElem_toArray, List.getElem_cons_zero, List.getElem_cons_succ, List.setIfInBounds_toArray, List.set_cons_zero, List.set_cons_succ])
  refine wpAnyH_ready (rs := [6]) (by kernel_rfl) (by simp) ?_
  refine AllReadyH.cons rfl (fun K hK => ?_) AllReadyH.nil
  go_simp
  refine (HI.out _ _ F3_A.out.is).mono ?_
  rintro e d4 ⟨yb, rfl, ho, hb⟩
  have F4_B := Lib.hid (joins F3_B.out hb)
  have F4_C := Lib.hid (And.intro (keepc hb F3_C.out.1) (keepc hb F3_C.out.2))
  have F4_V := Lib.hid (F3_V.out.below hb)
  have F4_Y2 := Lib.hid (F3_Y2.out.below hb)
  have F4_Y4 := Lib.hid (F3_Y4.out.below hb)
  have F4_A := Lib.hid (F3_A.out.below hb)
  have LB := Lib.hid (show ∀ k, yb.ownBlock = some k → d3.heap.size ≤ k from fun k hk => (ho.lt k hk).1)
  have F4_O := Lib.hid (OG.of ho)
  have hHeld := grownB hHeld hb
  clear hb
  refine hK.out _ _ hHeld (fun hHeld => ?_)
  clear hK K
  (try simp only [Act.put, List.getElem_toArray, List.getElem_cons_zero, List.getElem_cons_succ, List.setIfInBounds_toArray, List.set_cons_zero, List.set_cons_succ])
  refine' wpAnyH_take (i := 7) (v := _) rfl (by kernel_rfl) (by kernel_rfl) (by kernel_rfl) (fun _ _ _ h => h) (Or.inl ⟨by rfl, ?hy55⟩) (by assumption) ?rest55
  case hy55 =>
    intro w h
    (try clear h)
    go_simp
    (try with_reducible rfl)
  (try simp only [Act.put, List.getElem_toArray, List.getElem_cons_zero, List.getElem_cons_succ, List.setIfInBounds_toArray, List.set_cons_zero, List.set_cons_succ])
  refine' wpAnyH_take (i := 8) (v := _) rfl (by kernel_rfl) (by kernel_rfl) (by kernel_rfl) (fun _ _ _ h => h) (Or.inl ⟨by rfl, ?hy56⟩) (by assumption) ?rest56
  case hy56 =>
    intro w h
    (try clear h)
    go_simp
    (try with_reducible rfl)
  (try simp only [Act.put, List.getElem_toArray, List.getElem_cons_zero, List.getElem_cons_succ, List.setIfInBounds_toArray, List.set_cons_zero, List.set_cons_succ])
  refine' wpAnyH_take (i := 9) (v := _) rfl (by kernel_rfl) (by kernel_rfl) (by kernel_rfl) (fun _ _ _ h => h) (Or.inl ⟨by rfl, ?hy57⟩) (by assumption) ?rest57
  case hy57 =>
    intro w h
    (try clear h)
    go_simp
    (try with_reducible rfl)
  (try simp only [Act.put, List.getElem_toArray, List.getElem_cons_zero, List.getElem_cons_succ, List.setIfInBounds_toArray, List.set_cons_zero, List.set_cons_succ])
  refine' wpAnyH_take (i := 10) (v := _) rfl (by kernel_rfl) (by kernel_rfl) (by kernel_rfl) (fun _ _ _ h => h) (Or.inl ⟨by rfl, ?hy58⟩) (by assumption) ?rest58
  case hy58 =>
    intro w h
    (try clear h)
    go_simp
    (try with_reducible rfl)
  (try simp only [Act.put, List.getElem_toArray, List.getElem_cons_zero, List.getElem_cons_succ, List.setIfInBounds_toArray, List.set_cons_zero, List.set_cons_succ])
  refine' wpAnyH_take (i := 11) (v := _) rfl (by kernel_rfl) (by kernel_rfl) (by kernel_rfl) (fun _ _ _ h => h) (Or.inl ⟨by rfl, ?hy59⟩) (by assumption) ?rest59
  case hy59 =>
    intro w h
    (try clear h)
    go_simp
    (try with_reducible rfl)
  (try simp only [Act.put, List.getElem_toArray, List.getElem_cons_zero, List.getElem_cons_succ, List.setIfInBounds_toArray, List.set_cons_zero, List.set_cons_succ])
  refine wpAnyH_done (by kernel_rfl) ?_ _
  have hB13 := F4_B.out
  have o13_y2 := F4_Y2.out
  have o13_y4 := F4_Y4.out
  have o13_y13 := F4_O.out
  obtain ⟨w13, hw13⟩ : ∃ w', w' = d4 := ⟨_, rfl⟩
  rw [← hw13] at hB13 o13_y2 o13_y4 o13_y13 ⊢
  clear hw13 hHeld LB
  go_wp2_with fail
  refine (eqGaussS_same _ _ out0 _ (o13_y13).is (o13_y2).is).mono ?_
  rintro e w14 ⟨rfl, hb14⟩
  have hB14 := joins hB13 hb14
  have o14_y4 := (o13_y4).below hb14
  go_wp2_with fail
  refine (o14_y4.held (by omega) (by omega)).mono ?_
  rintro e w15 ⟨rfl, hb15⟩
  have hB15 := joins hB14 hb15
  go_wp2_with fail
  go_returns
  exact ⟨rfl, hB15⟩
  

set_option maxRecDepth 100000 in
theorem delayedOf_law (w : World) (a0 : Option Addr) (c0 : Nat) (l0 : List Int) (hv0 : IS w (.slice a0 l0.length c0) l0) (a1 b1 : Int) (x2 : Int) (x3 : Int) (out0 : List (Int × Int)) (hout0 : out0.length ≤ 1048576) (r1 : Bool)
    (hs : ∀ (v0 : Value) (w : World), IS w v0 l0 → l0.length ≤ 1048576 → Calls Try.prog 25 #[v0, .agg #[.int .i64 a1, .int .i64 b1], .int .i64 x2, .int .i64 x3] w (MakesGB w out0 r1))
    (hi : ∀ (v0 : Value) (w : World), IS w v0 l0 → l0.length ≤ 1048576 → Calls Try.prog 27 #[v0, .agg #[.int .i64 a1, .int .i64 b1], .int .i64 x2, .int .i64 x3] w (MakesGB w out0 r1)) :
    Calls Try.prog 5 #[.slice a0 l0.length c0, .agg #[.int .i64 a1, .int .i64 b1], .int .i64 x2, .int .i64 x3] w (Ret w (.bool true)) := by
  by_cases hl0 : l0.length ≤ 1048576
  · skip
    exact delayedOf_walk w a0 c0 l0 hl0 hv0 a1 b1 x2 x3 out0 hout0 r1 (fun v0 w h0 => hs v0 w h0 hl0) (fun v0 w h0 => hi v0 w h0 hl0)
  · clear hs hi
    have hn0 : (1048576 : Int) < (l0.length : Int) := by omega
    go_enter Try.func5, Try.ntmps5
    go_wp2_with fail
    go_returns
    exact ⟨rfl, by go_grown⟩
end Go.Proofs.Ytapmehgdnofgnab
