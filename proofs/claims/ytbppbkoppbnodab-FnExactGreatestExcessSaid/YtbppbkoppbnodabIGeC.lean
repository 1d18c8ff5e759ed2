/- The program's columnSizes, greatestExcess, GreatestExcess. -/
import Derived.Test.YtbppbkoppbnodabIGe
import Derived.Test.YtbppbkoppbnodabIBar
namespace Go.Proofs.Ytbppbkoppbnodab
set_option maxRecDepth 100000
open Go.RowKit

set_option maxRecDepth 100000 in
set_option maxHeartbeats 4000000 in
theorem columnSizes_any (V : Nat → Nat × Nat) (n : Nat) (M : Nat → Nat → Int) (hV : MxR V n M) (D : List Int) (hD : D.length = n) (hD3 : ∀ i, i < n → 0 ≤ D.getD i 0 ∧ D.getD i 0 ≤ 3) (w : World) :
    Calls Try.prog 73 #[.agg (mxC V n), .agg (phA (padL D) n)] w (Ret w (.int .i64 (geS M n (fun i => D.getD i 0)))) := by
  have hn := hV.1
  have HPH := Lib.hid (fun i j (hi : i < n) (hj : j < n) => hV.2.1 i j hi hj)
  have HD3 := Lib.hid hD3
  have hp32 : (padL D).length = 32 := padL_length (by omega)
  have HDC := Lib.hid (fun i (hi : i < n) => show (phA (padL D) n)[i]? = some (.int .i64 (D.getD i 0)) by rw [phA_get _ _ i (by omega), pad_getD D i (by omega)])
  obtain ⟨d, hd⟩ : ∃ d : Nat → Int, d = fun i => D.getD i 0 := ⟨_, rfl⟩
  have hd2 : ∀ i, D.getD i 0 = d i := fun i => by rw [hd]
  simp only [hd2] at HD3 HDC
  rw [← hd]
  obtain ⟨T, hT⟩ : ∃ T, T = phA (padL D) n := ⟨_, rfl⟩
  rw [← hT] at HDC ⊢
  have HXI := Lib.hid (fun j k => geI_small vx vx_one M d j k)
  have HYI := Lib.hid (fun j k => geI_small vy vy_one M d j k)
  have HS := Lib.hid (fun k => geS_small M n hn d k)
  have HC := Lib.hid (fun k => geC_small M n hn d k)
  obtain ⟨XI, hXI⟩ : ∃ X : Nat → Nat → Int, X = geI vx M d := ⟨_, rfl⟩
  obtain ⟨YI, hYI⟩ : ∃ X : Nat → Nat → Int, X = geI vy M d := ⟨_, rfl⟩
  have SXI := Lib.hid (fun j k => show XI j (k + 1) = XI j k + vx ((M k j + d k) % 4) by rw [hXI]; rfl)
  have SYI := Lib.hid (fun j k => show YI j (k + 1) = YI j k + vy ((M k j + d k) % 4) by rw [hYI]; rfl)
  have ZI := Lib.hid (fun i => show XI i 0 = 0 by rw [hXI]; rfl)
  have ZJ := Lib.hid (fun i => show YI i 0 = 0 by rw [hYI]; rfl)
  have HCC := Lib.hid (fun j => show geC M n d j = ((XI j n).natAbs : Int) + ((YI j n).natAbs : Int) by rw [hXI, hYI]; rfl)
  rw [← hXI] at HXI
  rw [← hYI] at HYI
  unfold geS
  obtain ⟨C, hC⟩ : ∃ C, C = geC M n d := ⟨_, rfl⟩
  rw [← hC] at HS HC HCC ⊢
  have HSS := Lib.hid (fun k => show sumN C (k + 1) = sumN C k + C k from rfl)
  obtain ⟨S, hS⟩ : ∃ S, S = sumN C := ⟨_, rfl⟩
  rw [← hS] at HS HSS ⊢
  have HS0 := Lib.hid (show S 0 = 0 by rw [hS]; rfl)
  clear hV hD hD3 hp32 hd hd2 hT hXI hYI hC hS
  have B0 := Lib.hid (Below.refl w.heap.size w)
  go_enter Try.func73, Try.ntmps73
  go_wp2_with (first
    | ((with_reducible refine at_op (Op.box 55 (.tmp 0)) ?_); refine wpList_box_row rfl 55 (.tmp 0) rfl (mxC V n) rfl ?_; intro w1 hr hb hz; have R1_m := Lib.hid hr; have B1 := Lib.hid (joins B0.out hb); have L1_m := Lib.hid (show w.heap.size ≤ w.heap.size from B0.out.size); clear hr hb hz)
    | ((with_reducible refine at_op (Op.box 87 (.tmp 1)) ?_); refine wpList_box_row rfl 87 (.tmp 1) rfl T rfl ?_; intro w2 hr hb hz; have N2_m_t := Lib.hid (Nat.ne_of_lt (row_lt R1_m.out)); have N2_t_m := Lib.hid (Ne.symm N2_m_t.out); have R2_m := Lib.hid (rowB R1_m.out hb); have R2_t := Lib.hid hr; have B2 := Lib.hid (joins B1.out hb); have L2_t := Lib.hid (show w.heap.size ≤ w1.heap.size from B1.out.size); have c0 := rowC R2_m.out (mxC_side V n); clear hr hb hz))
  have RM0 := R2_m
  have RT0 := R2_t
  have BB0 := B2
  go_loopw [11, 5] (fun q s wr => ∃ a : Nat, a ≤ n ∧ q = .int .i64 a ∧ s = .int .i64 (S a) ∧ wr.heap[w.heap.size]? = some (.cells (mxC V n) 55 (0, 0)) ∧ wr.heap[w1.heap.size]? = some (.cells T 87 (0, 0)) ∧ Below w.heap.size w wr) (fun q _ _ => n - (intOf q).toNat)
  case atStart => exact ⟨0, Nat.zero_le _, rfl, by rw [HS0.out], RM0.out, RT0.out, BB0.out⟩
  case round =>
    obtain ⟨a, ha, rfl, rfl, hm, ht, hbel⟩ := hrel
    have RM := Lib.hid hm
    have RT := Lib.hid ht
    have BR := Lib.hid hbel
    have c0 := rowC hm (mxC_side _ _)
    clear hm ht hbel
    generalize hwo : wr = wo at *
    clear hwo
    by_cases hlt : a < n
    · have h0 : (0 : Int) ≤ (a : Int) := by omega
      have h1 : (a : Int) < (n : Int) := by omega
      go_wp2_with fail
      go_loopw [16, 7] (fun q s wr => ∃ b : Nat, b ≤ n ∧ q = .int .i64 b ∧ s = .complex .f32 (f32of (XI a b)) (f32of (YI a b)) ∧ wr.heap[w.heap.size]? = some (.cells (mxC V n) 55 (0, 0)) ∧ wr.heap[w1.heap.size]? = some (.cells T 87 (0, 0)) ∧ Below w.heap.size w wr) (fun q _ _ => n - (intOf q).toNat)
      case atStart => exact ⟨0, Nat.zero_le _, rfl, by rw [ZI.out, ZJ.out]; rfl, RM.out, RT.out, BR.out⟩
      case round =>
        obtain ⟨b, hb, rfl, rfl, hm, ht, hbel⟩ := hrel
        have RM2 := Lib.hid hm
        have RT2 := Lib.hid ht
        have BR2 := Lib.hid hbel
        clear hm ht hbel
        by_cases hlb : b < n
        · have h0b : (0 : Int) ≤ (b : Int) := by omega
          have h1b : (b : Int) < (n : Int) := by omega
          have h8a : (a : Int) < 8 := by omega
          have h8b : (b : Int) < 8 := by omega
          have h32b : (b : Int) < 32 := by omega
          have hdb := HD3.out b hlb
          have hmu := isV_mul (HPH.out b a hlb hlt) (isV_of (d b) hdb.1 hdb.2)
          have hcell := mxC_get V (n : Int) (b * 8 + a) (by omega)
          have hcell2 := HDC.out b hlb
          obtain ⟨K, hK⟩ : ∃ K, K = d b := ⟨_, rfl⟩
          have b1 := HXI.out a b
          have b2 := HYI.out a b
          have s1 := SXI.out a b
          have s2 := SYI.out a b
          rw [← hK] at hdb hmu hcell2 s1 s2
          have HVO := Lib.hid (valueOf_any K hdb.1 hdb.2)
          obtain ⟨hm1, ⟨u1, u2⟩, ⟨u3, u4⟩, -⟩ := hmu
          rw [← u3] at s1
          rw [← u4] at s2
          unfold cxV at hcell
          simp only at hm1
          obtain ⟨x1, hx1⟩ : ∃ x, x = (V (b * 8 + a)).1 := ⟨_, rfl⟩
          obtain ⟨x2, hx2⟩ : ∃ x, x = (V (b * 8 + a)).2 := ⟨_, rfl⟩
          obtain ⟨y1, hy1⟩ : ∃ x, x = f32of (vx K) := ⟨_, rfl⟩
          obtain ⟨y2, hy2⟩ : ∃ x, x = f32of (vy K) := ⟨_, rfl⟩
          rw [← hy1, ← hy2] at hm1 HVO u1 u2 s1 s2
          obtain ⟨p1, hp1⟩ : ∃ x, x = (mulB (V (b * 8 + a)) (y1, y2)).1 := ⟨_, rfl⟩
          obtain ⟨p2, hp2⟩ : ∃ x, x = (mulB (V (b * 8 + a)) (y1, y2)).2 := ⟨_, rfl⟩
          rw [← hp1] at hm1 u1 s1
          rw [← hp2] at hm1 u2 s2
          rw [← hx1, ← hx2] at hcell hm1
          have hmul := fun w t => run_complex_mul32 (P := Try.prog) w t _ _ _ _ _ _ hm1
          have hadd := fun w t => run_addv (P := Try.prog) w t (XI a b) (YI a b) p1 p2 (by omega) (by omega) u1 u2
          rw [← s1, ← s2] at hadd
          obtain ⟨q1, hq1⟩ : ∃ x, x = f32of (XI a b) := ⟨_, rfl⟩
          obtain ⟨q2, hq2⟩ : ∃ x, x = f32of (YI a b) := ⟨_, rfl⟩
          obtain ⟨q3, hq3⟩ : ∃ x, x = f32of (XI a (b + 1)) := ⟨_, rfl⟩
          obtain ⟨q4, hq4⟩ : ∃ x, x = f32of (YI a (b + 1)) := ⟨_, rfl⟩
          rw [← hq1, ← hq2, ← hq3, ← hq4] at hadd
          rw [← hq1, ← hq2]
          have Q3 := Lib.hid hq3
          have Q4 := Lib.hid hq4
          have CM := Lib.hid hcell
          have CT := Lib.hid hcell2
          clear b1 b2 s1 s2 u1 u2 u3 u4 hx1 hx2 hy1 hy2 hp1 hp2 hq1 hq2 hq3 hq4 hm1 hK hcell hcell2 hdb
          go_wp2_with fail
          refine wp_region_held_drew (S := (fun w' => World.grownBy wr w' none)) (by kernel_rfl) (grownDrew (World.grownBy.refl _ _)) ?_
          obtain ⟨w31, hdw⟩ : ∃ w', w' = wr.drew := ⟨_, rfl⟩
          rw [← hdw]
          have hb : Below wr.heap.size wr w31 := by rw [hdw]; exact belowN (Below.refl _ _) 1
          have R31_m := Lib.hid (rowB RM2.out hb)
          have R31_t := Lib.hid (rowB RT2.out hb)
          have B31 := Lib.hid (joins BR2.out hb)
          clear hdw hb
          intro hHeld
          refine' wpAnyH_take (i := 0) (v := _) rfl (by kernel_rfl) (by kernel_rfl) (by kernel_rfl) (fun _ _ _ h => h) (Or.inl ⟨by rfl, ?hy1⟩) (by assumption) ?rest1
          case hy1 =>
            intro w h
            (try clear h)
            go_simp
            (try with_reducible rfl)
          (try simp only [Act.put, List.getElem_toArray, List.getElem_cons_zero, List.setIfInBounds_toArray, List.set_cons_zero, List.set_cons_succ])
          refine' wpAnyH_take (i := 1) (v := _) rfl (by kernel_rfl) (by kernel_rfl) (by kernel_rfl) (fun _ _ _ h => h) (Or.inl ⟨by rfl, ?hy2⟩) (by assumption) ?rest2
          case hy2 =>
            intro w h
            (try clear h)
            go_simp
            (try with_reducible rfl)
          (try simp only [Act.put, List.getElem_toArray, List.getElem_cons_zero, List.getElem_cons_succ, List.setIfInBounds_toArray, List.set_cons_zero, List.set_cons_succ])
          refine' wpAnyH_take (i := 2) (v := _) rfl (by kernel_rfl) (by kernel_rfl) (by kernel_rfl) (fun _ _ _ h => h) (Or.inl ⟨by rfl, ?hy3⟩) (by assumption) ?rest3
          case hy3 =>
            intro w h
            (try clear h)
            go_simp
            (try with_reducible rfl)
          (try simp only [Act.put, List.getElem_toArray, List.getElem_cons_zero, List.getElem_cons_succ, List.setIfInBounds_toArray, List.set_cons_zero, List.set_cons_succ])
          refine' wpAnyH_take (i := 3) (v := _) rfl (by kernel_rfl) (by kernel_rfl) (by kernel_rfl) (fun _ _ _ h => h) (Or.inl ⟨by rfl, ?hy4⟩) (by assumption) ?rest4
          case hy4 =>
            intro w h
            (try clear h)
            go_simp
            (try with_reducible rfl)
          (try simp only [Act.put, List.getElem_toArray, List.getElem_cons_zero, List.getElem_cons_succ, List.setIfInBounds_toArray, List.set_cons_zero, List.set_cons_succ])
          refine' wpAnyH_take (i := 4) (v := _) rfl (by kernel_rfl) (by kernel_rfl) (by kernel_rfl) (fun _ _ _ h => h) (Or.inl ⟨by rfl, ?hy5⟩) (by assumption) ?rest5
          case hy5 =>
            intro w h
            (try clear h)
            go_simp
            (try with_reducible rfl)
          (try simp only [Act.put, List.getElem_toArray, List.getElem_cons_zero, List.getElem_cons_succ, List.setIfInBounds_toArray, List.set_cons_zero, List.set_cons_succ])
          refine' wpAnyH_take (i := 5) (v := _) rfl (by kernel_rfl) (by kernel_rfl) (by kernel_rfl) (fun _ _ _ h => h) (Or.inl ⟨by rfl, ?hy6⟩) (by assumption) ?rest6
          case hy6 =>
            intro w h
            (try clear h)
            go_simp
            (try with_reducible rfl)
          (try simp only [Act.put, List.getElem_toArray, List.getElem_cons_zero, List.getElem_cons_succ, List.setIfInBounds_toArray, List.set_cons_zero, List.set_cons_succ])
          refine' wpAnyH_take (i := 6) (v := _) rfl (by kernel_rfl) (by kernel_rfl) (by kernel_rfl) (fun _ _ _ h => h) (Or.inl ⟨by rfl, ?hy7⟩) (by assumption) ?rest7
          case hy7 =>
            intro w h
            have cs := rowC (rowG RM2.out h (by simp)) CM.out
            (try clear h)
            go_simp
            (try with_reducible rfl)
          (try simp only [Act.put, List.getElem_toArray, List.getElem_cons_zero, List.getElem_cons_succ, List.setIfInBounds_toArray, List.set_cons_zero, List.set_cons_succ])
          refine' wpAnyH_take (i := 7) (v := _) rfl (by kernel_rfl) (by kernel_rfl) (by kernel_rfl) (fun _ _ _ h => h) (Or.inl ⟨by rfl, ?hy8⟩) (by assumption) ?rest8
          case hy8 =>
            intro w h
            (try clear h)
            go_simp
            (try with_reducible rfl)
          (try simp only [Act.put, List.getElem_toArray, List.getElem_cons_zero, List.getElem_cons_succ, List.setIfInBounds_toArray, List.set_cons_zero, List.set_cons_succ])
          refine' wpAnyH_take (i := 8) (v := _) rfl (by kernel_rfl) (by kernel_rfl) (by kernel_rfl) (fun _ _ _ h => h) (Or.inl ⟨by rfl, ?hy9⟩) (by assumption) ?rest9
          case hy9 =>
            intro w h
            (try clear h)
            go_simp
            (try with_reducible rfl)
          (try simp only [Act.put, List.getElem_toArray, List.getElem_cons_zero, List.getElem_cons_succ, List.setIfInBounds_toArray, List.set_cons_zero, List.set_cons_succ])
          refine' wpAnyH_take (i := 9) (v := _) rfl (by kernel_rfl) (by kernel_rfl) (by kernel_rfl) (fun _ _ _ h => h) (Or.inl ⟨by rfl, ?hy10⟩) (by assumption) ?rest10
          case hy10 =>
            intro w h
            (try clear h)
            go_simp
            (try with_reducible rfl)
          (try simp only [Act.put, List.getElem_toArray, List.getElem_cons_zero, List.getElem_cons_succ, List.setIfInBounds_toArray, List.set_cons_zero, List.set_cons_succ])
          refine' wpAnyH_take (i := 10) (v := _) rfl (by kernel_rfl) (by kernel_rfl) (by kernel_rfl) (fun _ _ _ h => h) (Or.inl ⟨by rfl, ?hy11⟩) (by assumption) ?rest11
          case hy11 =>
            intro w h
            have ct := rowC (rowG RT2.out h (by simp)) CT.out
            (try clear h)
            go_simp
            (try with_reducible rfl)
          (try simp only [Act.put, List.getElem_toArray, List.getElem_cons_zero, List.getElem_cons_succ, List.setIfInBounds_toArray, List.set_cons_zero, List.set_cons_succ])
          refine wpAnyH_ready (rs := [11]) (by kernel_rfl) (by simp) ?_
          refine AllReadyH.cons rfl (fun K hK => ?_) AllReadyH.nil
          go_simp
          refine (HVO.out _).mono ?_
          rintro e w32 ⟨rfl, hb⟩
          have R32_m := Lib.hid (rowB R31_m.out hb)
          have R32_t := Lib.hid (rowB R31_t.out hb)
          have B32 := Lib.hid (joins B31.out hb)
          have hHeld := grownB hHeld hb
          clear hb
          refine hK.out _ _ hHeld (fun hHeld => ?_)
          clear hK K
          (try simp only [Act.put, List.getElem_toArray, List.getElem_cons_zero, List.getElem_cons_succ, List.setIfInBounds_toArray, List.set_cons_zero, List.set_cons_succ])
          refine' wpAnyH_take (i := 12) (v := _) rfl (by kernel_rfl) (by kernel_rfl) (by kernel_rfl) (fun _ _ _ h => h) (Or.inl ⟨by rfl, ?hy12⟩) (by assumption) ?rest12
          case hy12 =>
            intro w h
            (try clear h)
            go_simp
            (try with_reducible rfl)
          (try simp only [Act.put, List.getElem_toArray, List.getElem_cons_zero, List.getElem_cons_succ, List.setIfInBounds_toArray, List.set_cons_zero, List.set_cons_succ])
          refine' wpAnyH_take (i := 13) (v := _) rfl (by kernel_rfl) (by kernel_rfl) (by kernel_rfl) (fun _ _ _ h => h) (Or.inl ⟨by rfl, ?hy13⟩) (by assumption) ?rest13
          case hy13 =>
            intro w h
            (try clear h)
            go_simp
            (try with_reducible rfl)
          (try simp only [Act.put, List.getElem_toArray, List.getElem_cons_zero, List.getElem_cons_succ, List.setIfInBounds_toArray, List.set_cons_zero, List.set_cons_succ])
          refine' wpAnyH_take (i := 14) (v := _) rfl (by kernel_rfl) (by kernel_rfl) (by kernel_rfl) (fun _ _ _ h => h) (Or.inl ⟨by rfl, ?hy14⟩) (by assumption) ?rest14
          case hy14 =>
            intro w h
            (try clear h)
            go_simp
            (try with_reducible rfl)
          (try simp only [Act.put, List.getElem_toArray, List.getElem_cons_zero, List.getElem_cons_succ, List.setIfInBounds_toArray, List.set_cons_zero, List.set_cons_succ])
          refine wpAnyH_done (by kernel_rfl) ?_ _
          go_wp2_with fail
          go_roundw
          case rel => exact ⟨b + 1, by omega, by go_num, by rw [Q3.out, Q4.out], R32_m.out, R32_t.out, B32.out⟩
          case measure => simp [intOf]; omega
        · obtain rfl : n = b := by omega
          have HSP := Lib.hid (sizeOfParts_any (XI a n) (YI a n) (by have := HXI.out a n; omega) (by have := HYI.out a n; omega))
          rw [← HCC.out] at HSP
          have hs := HS.out a
          have hc := HC.out a
          have hss := HSS.out a
          obtain ⟨c, hc'⟩ : ∃ c, c = C a := ⟨_, rfl⟩
          obtain ⟨s, hs'⟩ : ∃ c, c = S a := ⟨_, rfl⟩
          rw [← hc'] at HSP hc hss
          rw [← hs'] at hs hss ⊢
          obtain ⟨q1, hq1⟩ : ∃ x, x = f32of (XI a n) := ⟨_, rfl⟩
          obtain ⟨q2, hq2⟩ : ∃ x, x = f32of (YI a n) := ⟨_, rfl⟩
          rw [← hq1, ← hq2] at HSP ⊢
          have HSS' := Lib.hid hss
          obtain ⟨hs1, hs2⟩ := hs
          obtain ⟨hc1, hc2⟩ := hc
          have hs3 : s ≤ 8 * 16 := by omega
          have hwr : wrap64 (s + c) = s + c := IntWalk.wrap64_in _ (by omega)
          clear hss hc' hs' hq1 hq2 hs2
          go_wp2_with fail
          refine (HSP.out _).mono ?_
          rintro e wx ⟨rfl, hb⟩
          have RM3 := Lib.hid (rowB RM2.out hb)
          have RT3 := Lib.hid (rowB RT2.out hb)
          have BR3 := Lib.hid (joins BR2.out hb)
          clear hb
          go_wp2_with fail
          go_roundw
          case rel => exact ⟨a + 1, by omega, by go_num, by rw [HSS'.out], RM3.out, RT3.out, BR3.out⟩
          case measure => simp [intOf]; omega
    · obtain rfl : n = a := by omega
      go_wp2_with fail
      go_returns
      exact ⟨rfl, BR.out⟩

theorem shl_four (n : Nat) (hn : n ≤ 5) : wrap64 (2 ^ (2 * n)) = ((4 ^ n : Nat) : Int) := by
  rcases (show n = 0 ∨ n = 1 ∨ n = 2 ∨ n = 3 ∨ n = 4 ∨ n = 5 by omega) with rfl | rfl | rfl | rfl | rfl | rfl <;> simp [wrap64]
theorem four_le (n : Nat) (hn : n ≤ 5) : 1 ≤ 4 ^ n ∧ 4 ^ n ≤ 1024 := by
  rcases (show n = 0 ∨ n = 1 ∨ n = 2 ∨ n = 3 ∨ n = 4 ∨ n = 5 by omega) with rfl | rfl | rfl | rfl | rfl | rfl <;> simp
set_option maxRecDepth 100000 in
set_option maxHeartbeats 4000000 in
theorem greatestExcess_any (V : Nat → Nat × Nat) (n : Nat) (h5 : n ≤ 5) (M : Nat → Nat → Int) (hV : MxR V n M) (w : World) :
    Calls Try.prog 56 #[.agg (mxC V n)] w (Ret w (.int .i64 (maxN (geP M n) (4 ^ n)))) := by
  have HPW := Lib.hid (fun r (hr : r < 4 ^ n) => phasesWith_any n (by omega) r hr)
  have HCS := Lib.hid (fun r : Nat => columnSizes_any V n M hV (lowD (r : Int) n) (lowD_length _ _) (fun i hi => by
    rw [lowD_at r n i hi]; omega))
  have HG := Lib.hid (fun r : Nat => show 0 ≤ geP M n r ∧ geP M n r ≤ 128 by
    have := geS_small M n hV.1 (fun i => (lowD (r : Int) n).getD i 0) n
    have e : geP M n r = sumN (geC M n (fun i => (lowD (r : Int) n).getD i 0)) n := rfl
    rw [e]; omega)
  obtain ⟨P, hP⟩ : ∃ P : Nat → Array Value, P = fun r : Nat => phA (padL (lowD (r : Int) n)) n := ⟨_, rfl⟩
  have hP2 : ∀ r : Nat, phA (padL (lowD (r : Int) n)) n = P r := fun r => by rw [hP]
  simp only [hP2] at HPW HCS
  obtain ⟨G, hG⟩ : ∃ G : Nat → Int, G = geP M n := ⟨_, rfl⟩
  have hG2 : ∀ r : Nat, geS M n (fun i => (lowD (r : Int) n).getD i 0) = G r := fun r => by rw [hG]; rfl
  simp only [hG2] at HCS
  rw [← hG] at HG ⊢
  have HMS := Lib.hid (fun k => show maxN G (k + 1) = if G k > maxN G k then G k else maxN G k from rfl)
  have HMB := Lib.hid (fun k => show 0 ≤ maxN G k ∧ maxN G k ≤ 128 from ⟨maxN_pos G k, maxN_le G 128 (by omega) k (fun i _ => (HG.out i).2)⟩)
  obtain ⟨X, hX⟩ : ∃ X, X = maxN G := ⟨_, rfl⟩
  rw [← hX] at HMS HMB ⊢
  have HX0 := Lib.hid (show X 0 = 0 by rw [hX]; rfl)
  have hsh := shl_four n h5
  have hle := four_le n h5
  obtain ⟨N, hN⟩ : ∃ N, N = 4 ^ n := ⟨_, rfl⟩
  rw [← hN] at HPW hsh hle ⊢
  have IM := Lib.hid (infoMxC V n)
  clear hV hP hP2 hG hG2 hX hN
  have B0 := Lib.hid (Below.refl w.heap.size w)
  go_enter Try.func56, Try.ntmps56
  go_wp2_with ((with_reducible refine at_op (Op.box 55 (.tmp 0)) ?_); refine wpList_box_row rfl 55 (.tmp 0) rfl (mxC V n) rfl ?_; intro w1 hr hb hz; have R1_m := Lib.hid hr; have B1 := Lib.hid (joins B0.out hb); have L1_m := Lib.hid (show w.heap.size ≤ w.heap.size from B0.out.size); have c0 := rowC hr (mxC_side V n); clear hr hb hz)
  have RM0 := R1_m
  have BB0 := B1
  simp only [hsh]
  clear hsh
  go_loopw [9, 3] (fun q s wr => ∃ a : Nat, a ≤ N ∧ q = .int .i64 a ∧ s = .int .i64 (X a) ∧ wr.heap[w.heap.size]? = some (.cells (mxC V n) 55 (0, 0)) ∧ Below w.heap.size w wr) (fun q _ _ => N - (intOf q).toNat)
  case atStart => exact ⟨0, Nat.zero_le _, rfl, by rw [HX0.out], RM0.out, BB0.out⟩
  case round =>
    obtain ⟨a, ha, rfl, rfl, hm, hbel⟩ := hrel
    have RM := Lib.hid hm
    have BR := Lib.hid hbel
    clear hm hbel
    by_cases hlt : a < N
    · have h0 : (0 : Int) ≤ (a : Int) := by omega
      have h1 : (a : Int) < (N : Int) := by omega
      have HP1 := Lib.hid (HPW.out a hlt)
      have HC1 := Lib.hid (HCS.out a)
      have hg := HG.out a
      have hx := HMB.out a
      have hms := HMS.out a
      obtain ⟨g, hg'⟩ : ∃ g, g = G a := ⟨_, rfl⟩
      obtain ⟨x, hx'⟩ : ∃ g, g = X a := ⟨_, rfl⟩
      rw [← hg'] at HC1 hg hms
      rw [← hx'] at hx hms ⊢
      have HMS' := Lib.hid hms
      obtain ⟨hg1, hg2⟩ := hg
      obtain ⟨hx1, hx2⟩ := hx
      clear hms hg' hx'
      by_cases hgx : g > x
      · skip
        go_wp2_with fail
        refine wp_region_held_drew (S := (fun w' => World.grownBy wr w' none)) (by kernel_rfl) (grownDrew (World.grownBy.refl _ _)) ?_
        obtain ⟨w31, hdw⟩ : ∃ w', w' = wr.drew := ⟨_, rfl⟩
        rw [← hdw]
        have hb : Below wr.heap.size wr w31 := by rw [hdw]; exact belowN (Below.refl _ _) 1
        have R31_m := Lib.hid (rowB RM.out hb)
        have B31 := Lib.hid (joins BR.out hb)
        clear hdw hb
        intro hHeld
        refine' wpAnyH_take (i := 0) (v := _) rfl (by kernel_rfl) (by kernel_rfl) (by kernel_rfl) (fun _ _ _ h => h) (Or.inl ⟨by rfl, ?hy15⟩) (by assumption) ?rest15
        case hy15 =>
          intro w h
          (try clear h)
          go_simp
          (try with_reducible rfl)
        (try simp only [Act.put, List.getElem_toArray, List.getElem_cons_zero, List.setIfInBounds_toArray, List.set_cons_zero, List.set_cons_succ])
        refine' wpAnyH_take (i := 1) (v := _) rfl (by kernel_rfl) (by kernel_rfl) (by kernel_rfl) (fun _ _ _ h => h) (yieldsPart (by rfl) 55 (.tmp 1) rfl (w.heap.size) 0 rfl (mxC V n) (mxC V n) 55 (0, 0) _ (fun w h => (rowG RM.out h (by simp))) (Part.self _) Try.underlying55 rfl IM.out) (by assumption) ?rest16
        (try simp only [Act.put, List.getElem_toArray, List.getElem_cons_zero, List.getElem_cons_succ, List.setIfInBounds_toArray, List.set_cons_zero, List.set_cons_succ])
        refine' wpAnyH_take (i := 2) (v := _) rfl (by kernel_rfl) (by kernel_rfl) (by kernel_rfl) (fun _ _ _ h => h) (Or.inl ⟨by rfl, ?hy17⟩) (by assumption) ?rest17
        case hy17 =>
          intro w h
          (try clear h)
          go_simp
          (try with_reducible rfl)
        (try simp only [Act.put, List.getElem_toArray, List.getElem_cons_zero, List.getElem_cons_succ, List.setIfInBounds_toArray, List.set_cons_zero, List.set_cons_succ])
        refine' wpAnyH_take (i := 3) (v := _) rfl (by kernel_rfl) (by kernel_rfl) (by kernel_rfl) (fun _ _ _ h => h) (Or.inl ⟨by rfl, ?hy18⟩) (by assumption) ?rest18
        case hy18 =>
          intro w h
          have c0 := rowC (rowG RM.out h (by simp)) (mxC_side V n)
          (try clear h)
          go_simp
          (try with_reducible rfl)
        (try simp only [Act.put, List.getElem_toArray, List.getElem_cons_zero, List.getElem_cons_succ, List.setIfInBounds_toArray, List.set_cons_zero, List.set_cons_succ])
        refine' wpAnyH_take (i := 4) (v := _) rfl (by kernel_rfl) (by kernel_rfl) (by kernel_rfl) (fun _ _ _ h => h) (Or.inl ⟨by rfl, ?hy19⟩) (by assumption) ?rest19
        case hy19 =>
          intro w h
          (try clear h)
          go_simp
          (try with_reducible rfl)
        (try simp only [Act.put, List.getElem_toArray, List.getElem_cons_zero, List.getElem_cons_succ, List.setIfInBounds_toArray, List.set_cons_zero, List.set_cons_succ])
        refine wpAnyH_ready (rs := [5]) (by kernel_rfl) (by simp) ?_
        refine AllReadyH.cons rfl (fun K hK => ?_) AllReadyH.nil
        go_simp
        refine (HP1.out _).mono ?_
        rintro e w32 ⟨rfl, hb⟩
        have R32_m := Lib.hid (rowB R31_m.out hb)
        have B32 := Lib.hid (joins B31.out hb)
        have hHeld := grownB hHeld hb
        clear hb
        refine hK.out _ _ hHeld (fun hHeld => ?_)
        clear hK K
        (try simp only [Act.put, List.getElem_toArray, List.getElem_cons_zero, List.getElem_cons_succ, List.setIfInBounds_toArray, List.set_cons_zero, List.set_cons_succ])
        refine wpAnyH_ready (rs := [6]) (by kernel_rfl) (by simp) ?_
        refine AllReadyH.cons rfl (fun K hK => ?_) AllReadyH.nil
        go_simp
        refine (HC1.out _).mono ?_
        rintro e w33 ⟨rfl, hb⟩
        have R33_m := Lib.hid (rowB R32_m.out hb)
        have B33 := Lib.hid (joins B32.out hb)
        have hHeld := grownB hHeld hb
        clear hb
        refine hK.out _ _ hHeld (fun hHeld => ?_)
        clear hK K
        (try simp only [Act.put, List.getElem_toArray, List.getElem_cons_zero, List.getElem_cons_succ, List.setIfInBounds_toArray, List.set_cons_zero, List.set_cons_succ])
        refine' wpAnyH_take (i := 7) (v := _) rfl (by kernel_rfl) (by kernel_rfl) (by kernel_rfl) (fun _ _ _ h => h) (Or.inl ⟨by rfl, ?hy20⟩) (by assumption) ?rest20
        case hy20 =>
          intro w h
          (try clear h)
          go_simp
          (try with_reducible rfl)
        (try simp only [Act.put, List.getElem_toArray, List.getElem_cons_zero, List.getElem_cons_succ, List.setIfInBounds_toArray, List.set_cons_zero, List.set_cons_succ])
        refine' wpAnyH_take (i := 8) (v := _) rfl (by kernel_rfl) (by kernel_rfl) (by kernel_rfl) (fun _ _ _ h => h) (Or.inl ⟨by rfl, ?hy21⟩) (by assumption) ?rest21
        case hy21 =>
          intro w h
          (try clear h)
          go_simp
          (try with_reducible rfl)
        (try simp only [Act.put, List.getElem_toArray, List.getElem_cons_zero, List.getElem_cons_succ, List.setIfInBounds_toArray, List.set_cons_zero, List.set_cons_succ])
        refine wpAnyH_done (by kernel_rfl) ?_ _
        go_wp2_with fail
        go_roundw
        case rel => exact ⟨a + 1, by omega, by go_num, by rw [HMS'.out, if_pos (by omega)], R33_m.out, B33.out⟩
        case measure => simp [intOf]; omega
      · skip
        go_wp2_with fail
        refine wp_region_held_drew (S := (fun w' => World.grownBy wr w' none)) (by kernel_rfl) (grownDrew (World.grownBy.refl _ _)) ?_
        obtain ⟨w31, hdw⟩ : ∃ w', w' = wr.drew := ⟨_, rfl⟩
        rw [← hdw]
        have hb : Below wr.heap.size wr w31 := by rw [hdw]; exact belowN (Below.refl _ _) 1
        have R31_m := Lib.hid (rowB RM.out hb)
        have B31 := Lib.hid (joins BR.out hb)
        clear hdw hb
        intro hHeld
        refine' wpAnyH_take (i := 0) (v := _) rfl (by kernel_rfl) (by kernel_rfl) (by kernel_rfl) (fun _ _ _ h => h) (Or.inl ⟨by rfl, ?hy22⟩) (by assumption) ?rest22
        case hy22 =>
          intro w h
          (try clear h)
          go_simp
          (try with_reducible rfl)
        (try simp only [Act.put, List.getElem_toArray, List.getElem_cons_zero, List.setIfInBounds_toArray, List.set_cons_zero, List.set_cons_succ])
        refine' wpAnyH_take (i := 1) (v := _) rfl (by kernel_rfl) (by kernel_rfl) (by kernel_rfl) (fun _ _ _ h => h) (yieldsPart (by rfl) 55 (.tmp 1) rfl (w.heap.size) 0 rfl (mxC V n) (mxC V n) 55 (0, 0) _ (fun w h => (rowG RM.out h (by simp))) (Part.self _) Try.underlying55 rfl IM.out) (by assumption) ?rest23
        (try simp only [Act.put, List.getElem_toArray, List.getElem_cons_zero, List.getElem_cons_succ, List.setIfInBounds_toArray, List.set_cons_zero, List.set_cons_succ])
        refine' wpAnyH_take (i := 2) (v := _) rfl (by kernel_rfl) (by kernel_rfl) (by kernel_rfl) (fun _ _ _ h => h) (Or.inl ⟨by rfl, ?hy24⟩) (by assumption) ?rest24
        case hy24 =>
          intro w h
          (try clear h)
          go_simp
          (try with_reducible rfl)
        (try simp only [Act.put, List.getElem_toArray, List.getElem_cons_zero, List.getElem_cons_succ, List.setIfInBounds_toArray, List.set_cons_zero, List.set_cons_succ])
        refine' wpAnyH_take (i := 3) (v := _) rfl (by kernel_rfl) (by kernel_rfl) (by kernel_rfl) (fun _ _ _ h => h) (Or.inl ⟨by rfl, ?hy25⟩) (by assumption) ?rest25
        case hy25 =>
          intro w h
          have c0 := rowC (rowG RM.out h (by simp)) (mxC_side V n)
          (try clear h)
          go_simp
          (try with_reducible rfl)
        (try simp only [Act.put, List.getElem_toArray, List.getElem_cons_zero, List.getElem_cons_succ, List.setIfInBounds_toArray, List.set_cons_zero, List.set_cons_succ])
        refine' wpAnyH_take (i := 4) (v := _) rfl (by kernel_rfl) (by kernel_rfl) (by kernel_rfl) (fun _ _ _ h => h) (Or.inl ⟨by rfl, ?hy26⟩) (by assumption) ?rest26
        case hy26 =>
          intro w h
          (try clear h)
          go_simp
          (try with_reducible rfl)
        (try simp only [Act.put, List.getElem_toArray, List.getElem_cons_zero, List.getElem_cons_succ, List.setIfInBounds_toArray, List.set_cons_zero, List.set_cons_succ])
        refine wpAnyH_ready (rs := [5]) (by kernel_rfl) (by simp) ?_
        refine AllReadyH.cons rfl (fun K hK => ?_) AllReadyH.nil
        go_simp
        refine (HP1.out _).mono ?_
        rintro e w32 ⟨rfl, hb⟩
        have R32_m := Lib.hid (rowB R31_m.out hb)
        have B32 := Lib.hid (joins B31.out hb)
        have hHeld := grownB hHeld hb
        clear hb
        refine hK.out _ _ hHeld (fun hHeld => ?_)
        clear hK K
        (try simp only [Act.put, List.getElem_toArray, List.getElem_cons_zero, List.getElem_cons_succ, List.setIfInBounds_toArray, List.set_cons_zero, List.set_cons_succ])
        refine wpAnyH_ready (rs := [6]) (by kernel_rfl) (by simp) ?_
        refine AllReadyH.cons rfl (fun K hK => ?_) AllReadyH.nil
        go_simp
        refine (HC1.out _).mono ?_
        rintro e w33 ⟨rfl, hb⟩
        have R33_m := Lib.hid (rowB R32_m.out hb)
        have B33 := Lib.hid (joins B32.out hb)
        have hHeld := grownB hHeld hb
        clear hb
        refine hK.out _ _ hHeld (fun hHeld => ?_)
        clear hK K
        (try simp only [Act.put, List.getElem_toArray, List.getElem_cons_zero, List.getElem_cons_succ, List.setIfInBounds_toArray, List.set_cons_zero, List.set_cons_succ])
        refine' wpAnyH_take (i := 7) (v := _) rfl (by kernel_rfl) (by kernel_rfl) (by kernel_rfl) (fun _ _ _ h => h) (Or.inl ⟨by rfl, ?hy27⟩) (by assumption) ?rest27
        case hy27 =>
          intro w h
          (try clear h)
          go_simp
          (try with_reducible rfl)
        (try simp only [Act.put, List.getElem_toArray, List.getElem_cons_zero, List.getElem_cons_succ, List.setIfInBounds_toArray, List.set_cons_zero, List.set_cons_succ])
        refine' wpAnyH_take (i := 8) (v := _) rfl (by kernel_rfl) (by kernel_rfl) (by kernel_rfl) (fun _ _ _ h => h) (Or.inl ⟨by rfl, ?hy28⟩) (by assumption) ?rest28
        case hy28 =>
          intro w h
          (try clear h)
          go_simp
          (try with_reducible rfl)
        (try simp only [Act.put, List.getElem_toArray, List.getElem_cons_zero, List.getElem_cons_succ, List.setIfInBounds_toArray, List.set_cons_zero, List.set_cons_succ])
        refine wpAnyH_done (by kernel_rfl) ?_ _
        go_wp2_with fail
        go_roundw
        case rel => exact ⟨a + 1, by omega, by go_num, congrArg (Value.int .i64) HMS'.out.symm, R33_m.out, B33.out⟩
        case measure => simp [intOf]; omega
    · obtain rfl : N = a := by omega
      go_wp2_with fail
      go_returns
      exact ⟨rfl, BR.out⟩
set_option maxRecDepth 100000 in
set_option maxHeartbeats 4000000 in
theorem igreatestExcess (v : Value) (m : List (List Int)) (w : World) (hv : IR w v m) (hl : sz2 m ≤ 1048576) : Calls Try.prog 24 #[v] w (Ret w (.tuple #[.int .i64 (geA m), .bool (geOk m)])) := by
  have HM := Lib.hid (fun w' (h : Below w.heap.size w w') => matrixFrom_any v m w' (hv.below h) hl)
  have hR := mf_MxR m
  have HX := isExpanded_any (mfV m) (mfN m) hR.1
  have ex : decide (1 ≤ mfN m ∧ mfN m ≤ 5) = geOk m := by
    unfold geOk mfN
    cases h : maOk m with
    | true => have := (maOk_parts h).1.1; by_cases h5 : m.length ≤ 5 <;> simp [h5] <;> omega
    | false => rfl
  rw [ex] at HX
  have HX' := Lib.hid HX
  have ZZ := Lib.hid zeroMx
  have IC := Lib.hid (infoMxC (mfV m) (mfN m))
  have SC := Lib.hid (mxC_size (mfV m) (mfN m))
  have OC := Lib.hid (mxC_one (mfV m) (mfN m))
  obtain ⟨C, hC⟩ : ∃ C, C = mxC (mfV m) (mfN m) := ⟨_, rfl⟩
  obtain ⟨pa, cap, rfl⟩ := hv.slice
  clear hv HX ex
  cases hok : geOk m with
  | true =>
    rw [hok] at HX'
    have hm : maOk m = true ∧ m.length ≤ 5 := by simpa [geOk] using hok
    have hN : mfN m = m.length := by unfold mfN; rw [hm.1]; rfl
    have HE := greatestExcess_any (mfV m) (mfN m) (by omega) _ hR
    have eA : maxN (geP (atM m) (mfN m)) (4 ^ mfN m) = geA m := by unfold geA; rw [hok, if_pos rfl, hN]; exact ge_same (atM m) m.length
    rw [eA] at HE
    have HE' := Lib.hid HE
    obtain ⟨X, hX⟩ : ∃ X, X = geA m := ⟨_, rfl⟩
    rw [← hX] at HE' ⊢
    rw [← hC] at HM HX' HE' IC SC OC
    clear hR hC HE eA hX hok hm hN
    have B0 := Lib.hid (Below.refl w.heap.size w)
    go_enter Try.func24, Try.ntmps24
    go_wp2_with fail
    refine (HM.out _ B0.out).mono ?_
    rintro e w1 ⟨rfl, hb⟩
    have B1 := Lib.hid (joins B0.out hb)
    clear hb
    go_wp2_with (first
      | ((with_reducible refine at_op (d := some 4) (Op.alloc 55) ?_); refine wpList_alloc_row rfl 55 rfl (mxC V0 0) (fun w => ZZ.out w) ?_; intro w2 hr hb hz; have R2_c := Lib.hid hr; have B2 := Lib.hid (joins B1.out hb); have L2_c := Lib.hid (show w.heap.size ≤ w1.heap.size from B1.out.size); clear hr hb hz)
      | ((with_reducible refine at_op (Op.store 55 (.tmp 4) (.tmp 6)) ?_); refine wpList_put_row rfl 55 (.tmp 4) (.tmp 6) rfl (w1.heap.size) C rfl rfl 55 (mxC V0 0) R2_c.out 65 infoMx SC.out (mxC_size _ _) OC.out w.heap.size w B2.out L2_c.out ?_; intro w3 hr hs hb; have R3_c := Lib.hid hr; have B3 := Lib.hid hb; clear hr hs hb)
      | ((with_reducible refine at_op (Op.load 55 (.tmp 4)) ?_); refine wpList_load_part rfl 55 (.tmp 4) rfl (w1.heap.size) 0 rfl C C 55 (0, 0) _ R3_c.out (Part.self _) Try.underlying55 rfl IC.out ?_))
    refine (HX'.out _).mono ?_
    rintro e w4 ⟨rfl, hb⟩
    have R4_c := Lib.hid (rowB R3_c.out hb)
    have B4 := Lib.hid (joins B3.out hb)
    clear hb
    go_wp2_with ((with_reducible refine at_op (Op.load 55 (.tmp 4)) ?_); refine wpList_load_part rfl 55 (.tmp 4) rfl (w1.heap.size) 0 rfl C C 55 (0, 0) _ R4_c.out (Part.self _) Try.underlying55 rfl IC.out ?_)
    refine (HE'.out _).mono ?_
    rintro e w5 ⟨rfl, hb⟩
    have R5_c := Lib.hid (rowB R4_c.out hb)
    have B5 := Lib.hid (joins B4.out hb)
    clear hb
    go_wp2_with fail
    go_returns
    exact ⟨rfl, B5.out⟩
  | false =>
    have hA : geA m = 0 := by unfold geA; rw [hok]; rfl
    rw [hA]
    rw [hok] at HX'
    rw [← hC] at HM HX' IC SC OC
    clear hR hC hA hok
    have B0 := Lib.hid (Below.refl w.heap.size w)
    go_enter Try.func24, Try.ntmps24
    go_wp2_with fail
    refine (HM.out _ B0.out).mono ?_
    rintro e w1 ⟨rfl, hb⟩
    have B1 := Lib.hid (joins B0.out hb)
    clear hb
    go_wp2_with (first
      | ((with_reducible refine at_op (d := some 4) (Op.alloc 55) ?_); refine wpList_alloc_row rfl 55 rfl (mxC V0 0) (fun w => ZZ.out w) ?_; intro w2 hr hb hz; have R2_c := Lib.hid hr; have B2 := Lib.hid (joins B1.out hb); have L2_c := Lib.hid (show w.heap.size ≤ w1.heap.size from B1.out.size); clear hr hb hz)
      | ((with_reducible refine at_op (Op.store 55 (.tmp 4) (.tmp 6)) ?_); refine wpList_put_row rfl 55 (.tmp 4) (.tmp 6) rfl (w1.heap.size) C rfl rfl 55 (mxC V0 0) R2_c.out 65 infoMx SC.out (mxC_size _ _) OC.out w.heap.size w B2.out L2_c.out ?_; intro w3 hr hs hb; have R3_c := Lib.hid hr; have B3 := Lib.hid hb; clear hr hs hb)
      | ((with_reducible refine at_op (Op.load 55 (.tmp 4)) ?_); refine wpList_load_part rfl 55 (.tmp 4) rfl (w1.heap.size) 0 rfl C C 55 (0, 0) _ R3_c.out (Part.self _) Try.underlying55 rfl IC.out ?_))
    refine (HX'.out _).mono ?_
    rintro e w4 ⟨rfl, hb⟩
    have R4_c := Lib.hid (rowB R3_c.out hb)
    have B4 := Lib.hid (joins B3.out hb)
    clear hb
    go_wp2_with fail
    go_returns
    exact ⟨rfl, B4.out⟩
end Go.Proofs.Ytbppbkoppbnodab
