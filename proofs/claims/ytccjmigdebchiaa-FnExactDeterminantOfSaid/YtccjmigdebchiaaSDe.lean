/- The model's haDeterminant. -/
import Derived.Test.YtccjmigdebchiaaSMi
import Derived.Test.YtccjmigdebchiaaSTi
import Derived.Test.YtccjmigdebchiaaPb
namespace Go.Proofs.Ytccjmigdebchiaa
set_option maxRecDepth 100000
open Go.RowKit

set_option maxRecDepth 100000 in
set_option maxHeartbeats 4000000 in
theorem haDeterminant_any (M : Nat → Nat → Int) (hM : ∀ i j, 0 ≤ M i j ∧ M i j ≤ 3) : ∀ d, d ≤ 5 → ∀ i cols, cols.length = d → ∀ (B : Nat) (v : Value) (w : World), OwnRG w B v (gmG M d i cols) →
    Calls Try.prog 24 #[v] w (Ret w (.agg #[.int .i64 (dt M d i cols).1, .int .i64 (dt M d i cols).2]))
  | 0, _, i, cols, hc, B, v, w, hv => by
    obtain ⟨a, cap, rfl⟩ := hv.is.slice
    rw [gmG_length]
    obtain ⟨z1, z2, z3, z4, z5, z6⟩ := ZG.start w 25
    clear hv
    go_enter Try.func24, Try.ntmps24
    go_wp2_with fail
    (try simp only [Exit.inBlock, Exit.then])
    refine bodyPost_ret (by simp [results, Try.results24, go_sem]; try rfl) rfl ?_
    exact ⟨rfl, belowa (Below.refl _ _) _⟩
  | d + 1, hd, i, cols, hc, B, v, w, hv => by
    have HIH := Lib.hid (fun (cols' : List Nat) (h : cols'.length = d) B v w (hv : OwnRG w B v (gmG M d (i + 1) cols')) => haDeterminant_any M hM d (by omega) (i + 1) cols' h B v w hv)
    have HMIN := Lib.hid (fun k (hk : k < d + 1) w' (h : OwnRG w' B v (gmG M (d + 1) i cols)) => haMinor_any B v (gmG M (d + 1) i cols) k w' h (by rw [gmG_length]; omega) (by rw [gmG_length]; omega) (fun q hq => by rw [gmG_length] at hq; rw [gmG_row _ _ _ _ q hq, gmG_length, List.length_map, hc]) (by rw [gmG_length]; exact hk))
    have HMG := Lib.hid (fun k => miG_gm M d i cols k)
    have HLE := Lib.hid (fun k hk => dtK_small M d i cols hc k hk)
    have HFC := Lib.hid (fac_four d (by omega))
    have HDK := Lib.hid (fun k => show dtK M d i cols k = dtT ((M i (cols.getD k 0) + 2 * (k : Int)) % 4) (dt M d (i + 1) (cols.eraseIdx k)) from rfl)
    have HDS := Lib.hid (fun k (hk : k < d + 1) => dt_small M d (i + 1) (cols.eraseIdx k) (by rw [List.length_eraseIdx_of_lt (by omega)]; omega))
    have HER := Lib.hid (fun k (hk : k < d + 1) => show (cols.eraseIdx k).length = d by rw [List.length_eraseIdx_of_lt (by omega)]; omega)
    have HGF := Lib.hid (fun k (hk : k < d + 1) => gm_first M d i cols k (by omega))
    have HMP := Lib.hid (fun k => hM i (cols.getD k 0))
    rw [dt_succ, hc]
    obtain ⟨X, hX⟩ : ∃ X : Nat → Int, X = fun k => (dtK M d i cols k).1 := ⟨_, rfl⟩
    obtain ⟨Y, hY⟩ : ∃ X : Nat → Int, X = fun k => (dtK M d i cols k).2 := ⟨_, rfl⟩
    rw [← hX, ← hY]
    have HXY := Lib.hid (fun k => And.intro (show X k = (dtK M d i cols k).1 by rw [hX]) (show Y k = (dtK M d i cols k).2 by rw [hY]))
    have HSM := Lib.hid (fun k (hk : k ≤ d + 1) => And.intro (sumN_upto X (fac d) (d + 1) (fun q hq => by rw [(HXY.out q).1]; exact (HLE.out q hq).1) k hk) (sumN_upto Y (fac d) (d + 1) (fun q hq => by rw [(HXY.out q).2]; exact (HLE.out q hq).2) k hk))
    have HZ0 := Lib.hid (ZG.start w 25)
    have hml : (gmG M (d + 1) i cols).length = d + 1 := gmG_length _ _ _ _
    have hrow : ((gmG M (d + 1) i cols).getD 0 []).length = d + 1 := by rw [gmG_row M (d + 1) i cols 0 (by omega), List.length_map, hc]
    obtain ⟨m, hm⟩ : ∃ m, m = gmG M (d + 1) i cols := ⟨_, rfl⟩
    rw [← hm] at HMIN HMG HGF hv hml hrow
    obtain ⟨n, hn⟩ : ∃ n, n = d + 1 := ⟨_, rfl⟩
    obtain ⟨g, cap, u, rfl, _, _, hcu, hou⟩ := hv.at 0 (by omega)
    have HV := Lib.hid hv
    rw [hml, ← hn] at HMIN HV
    rw [hml]
    rw [← hn] at HLE HDS HER HGF HSM hrow ⊢
    obtain ⟨l0, hl0⟩ : ∃ l, l = m.getD 0 [] := ⟨_, rfl⟩
    rw [← hl0] at hou HGF hrow
    have hlen : l0.length = n := hrow
    obtain ⟨gr, off, cr, rfl, hcr⟩ : ∃ gr off cr, u = .slice (some ⟨gr, off, none⟩) n cr ∧ ∀ k, k < n → w.cell? ⟨gr, off + k * 2, none⟩ = some (.int .i64 (gre l0 k)) ∧ w.cell? ⟨gr, off + k * 2 + 1, none⟩ = some (.int .i64 (gim l0 k)) := by
      rcases hou.is with ⟨h0, _⟩ | ⟨_, gr, off, cr, hu, _, hc⟩
      · rw [h0] at hlen; simp at hlen; omega
      · rw [hlen] at hu hc
        exact ⟨gr, off, cr, hu, hc⟩
    have HRC := Lib.hid hcr
    have HCU := Lib.hid hcu
    obtain ⟨fd, hfd⟩ : ∃ f, f = fac d := ⟨_, rfl⟩
    rw [← hfd] at HLE HFC HDS HSM
    have hn1 : 1 ≤ n := by omega
    have hn5 : n ≤ 5 := by omega
    have hn0 : ((n : Int) == 0) = false := by simp; omega
    have HN := Lib.hid hn
    clear hn hv hcu hou hrow hl0 hlen hcr hX hY hm hml hfd hd
    have c1 : ((w.alloc (.cells #[.int .i64 0, .int .i64 0] 25)).alloc (.cells #[.int .i64 0, .int .i64 0] 25)).cell? ⟨g, 0, none⟩ = some (.slice (some ⟨gr, off, none⟩) n cr) := keepc (belowa (Below.refl _ _) _) (keepc (belowa (Below.refl _ _) _) HCU.out)
    go_enter Try.func24, Try.ntmps24
    go_wp2_with fail
    have HZS := Lib.hid (show ZT w (w.heap.size + 1) 0 0 _ by simpa only [World.size_alloc] using ZT.start HZ0.out 25)
    clear c1
    go_loopw [16] (fun i wr => ∃ k : Nat, k ≤ n ∧ i = .int .i64 k ∧ ZT w (w.heap.size + 1) (sumN X k) (sumN Y k) wr) (fun i _ => n - (intOf i).toNat)
    case atStart => exact ⟨0, Nat.zero_le _, rfl, HZS.out⟩
    case round =>
      clear HZS HZ0
      obtain ⟨k, hk, rfl, hz⟩ := hrel
      have HZ := Lib.hid hz
      clear hz
      by_cases hlt : k < n
      · have h0 : (0 : Int) ≤ (k : Int) := by omega
        have h1 : (k : Int) < (n : Int) := by omega
        have hgf := HGF.out k hlt
        have hc0 := HRC.out k hlt
        have hmp := HMP.out k
        have hdk := HDK.out k
        have hds := HDS.out k hlt
        have hsm := HSM.out k (by omega)
        have hxy := HXY.out k
        have hfc := HFC.out
        rw [hgf.1, hgf.2] at hc0
        have c1 := keepc HZ.out.below hc0.1
        have c2 := keepc HZ.out.below hc0.2
        have HMI := Lib.hid (HMIN.out k hlt)
        rw [HMG.out k] at HMI
        have HIK := Lib.hid (HIH.out (cols.eraseIdx k) (HER.out k hlt))
        obtain ⟨p, hp⟩ : ∃ p, p = M i (cols.getD k 0) := ⟨_, rfl⟩
        rw [← hp] at hmp hdk c1 c2
        obtain ⟨z, hzz⟩ : ∃ z, z = dt M d (i + 1) (cols.eraseIdx k) := ⟨_, rfl⟩
        rw [← hzz] at hdk hds HIK
        have HPT := Lib.hid (phTimes_any p hmp z.1 z.2 (by omega) (by omega))
        have hte := term_even p hmp z k
        have hto := term_odd p hmp z k
        rw [← hdk] at hte hto
        have hsmall := dtT_small p z fd hds.1 hds.2 hmp
        obtain ⟨PX, hPX⟩ : ∃ q, q = vx p * z.1 - vy p * z.2 := ⟨_, rfl⟩
        obtain ⟨PY, hPY⟩ : ∃ q, q = vx p * z.2 + vy p * z.1 := ⟨_, rfl⟩
        rw [← hPX, ← hPY] at HPT hte hto
        rw [show dtT p z = (PX, PY) by rw [hPX, hPY]; rfl] at hsmall
        have hkf : (k : Int) * fd ≤ 120 := by have := Int.mul_le_mul (show (k : Int) ≤ 5 by omega) hfc.2.1 (by omega) (by omega); omega
        obtain ⟨SX, hSX⟩ : ∃ q, q = sumN X k := ⟨_, rfl⟩
        obtain ⟨SY, hSY⟩ : ∃ q, q = sumN Y k := ⟨_, rfl⟩
        obtain ⟨r, hr⟩ : ∃ r, r = k % 2 := ⟨_, rfl⟩
        have hr2 : r < 2 := by rw [hr]; exact Nat.mod_lt _ (by omega)
        have HEV := Lib.hid (show r = 0 → SX + PX = sumN X (k + 1) ∧ SY + PY = sumN Y (k + 1) from fun h => by
          have e := hte (by omega)
          rw [hSX, hSY]
          show _ = sumN X k + X k ∧ _ = sumN Y k + Y k
          rw [hxy.1, hxy.2, e]
          exact ⟨rfl, rfl⟩)
        have HOD := Lib.hid (show r = 1 → SX + -PX = sumN X (k + 1) ∧ SY + -PY = sumN Y (k + 1) from fun h => by
          have e := hto (by omega)
          rw [hSX, hSY]
          show _ = sumN X k + X k ∧ _ = sumN Y k + Y k
          rw [hxy.1, hxy.2, e]
          exact ⟨rfl, rfl⟩)
        rw [← hSX, ← hSY] at HZ
        rw [← hSX, ← hSY] at hsm
        have HPL0 := Lib.hid (phPlus_any SX SY PX PY (by omega) (by omega) (by omega) (by omega))
        have HPL1 := Lib.hid (phPlus_any SX SY (-PX) (-PY) (by omega) (by omega) (by omega) (by omega))
        have hm1 : (k : Int).tmod 2 = (r : Int) := by rw [hr]; rfl
        have hm2 : (k : Int) % 2 = (r : Int) := by rw [hr]; rfl
        have hw1 : wrap64 (-PX) = -PX := IntWalk.wrap64_in _ ⟨by omega, by omega⟩
        have hw2 : wrap64 (-PY) = -PY := IntWalk.wrap64_in _ ⟨by omega, by omega⟩
        obtain ⟨x, hx⟩ : ∃ x, x = vx p := ⟨_, rfl⟩
        obtain ⟨y, hy⟩ : ∃ x, x = vy p := ⟨_, rfl⟩
        rw [← hx] at c1 HPT
        rw [← hy] at c2 HPT
        obtain ⟨a, ha⟩ : ∃ a, a = z.1 := ⟨_, rfl⟩
        obtain ⟨b, hb⟩ : ∃ a, a = z.2 := ⟨_, rfl⟩
        rw [← ha, ← hb] at HPT HIK
        have OM := Lib.hid (HV.out.below HZ.out.below)
        clear hgf hc0 hmp hdk hds hsm hxy hfc hp hzz hte hto hsmall hPX hPY hkf hSX hSY hr hx hy ha hb
        go_wp2_with fail
        obtain ⟨w5, hw5⟩ : ∃ w5, w5 = wr.alloc (.cells #[.int .i64 x, .int .i64 y] 25) := ⟨_, rfl⟩
        rw [← hw5]
        have P1 := Lib.hid (show w5.cell? ⟨wr.heap.size, 0, none⟩ = some (.int .i64 x) by rw [hw5]; exact cell_new0 _ _ _ _)
        have P2 := Lib.hid (show w5.cell? ⟨wr.heap.size, 1, none⟩ = some (.int .i64 y) by rw [hw5]; exact cell_new1 _ _ _ _)
        have hb5 : Below wr.heap.size wr w5 := by rw [hw5]; exact belowa (Below.refl _ _) _
        have HZ5 := Lib.hid (HZ.out.step hb5)
        have OM5 := Lib.hid (OM.out.below hb5)
        have HLT5 := Lib.hid (show w.heap.size + 1 < w5.heap.size from HZ5.out.size)
        clear hw5 hb5 c1 c2
        refine wp_region_held_drew (S := (fun w' => World.grownBy w5 w' none)) (by kernel_rfl) (grownDrew (World.grownBy.refl _ _)) ?_
        obtain ⟨d1, hdw⟩ : ∃ w', w' = w5.drew := ⟨_, rfl⟩
        rw [← hdw]
        have hb : Below w5.heap.size w5 d1 := by rw [hdw]; exact belowN (Below.refl _ _) 1
        have F1_OM := Lib.hid (OM5.out.below hb)
        have F1_Z := Lib.hid (HZ5.out.step hb)
        clear hdw hb
        intro hHeld
        refine' wpAnyH_take (i := 0) (v := _) rfl (by kernel_rfl) (by kernel_rfl) (by kernel_rfl) (fun _ _ _ h => h) (Or.inl ⟨by rfl, ?hy1⟩) (by assumption) ?rest1
        case hy1 =>
          intro w h
          have c1 := cellR h P1.out (by simp)
          have c2 := cellR h P2.out (by simp)
          (try clear h)
          go_simp
          (try with_reducible rfl)
        (try simp only [Act.put, List.getElem_toArray, List.getElem_cons_zero, List.setIfInBounds_toArray, List.set_cons_zero, List.set_cons_succ])
        refine' wpAnyH_take (i := 1) (v := _) rfl (by kernel_rfl) (by kernel_rfl) (by kernel_rfl) (fun _ _ _ h => h) (Or.inl ⟨by rfl, ?hy2⟩) (by assumption) ?rest2
        case hy2 =>
          intro w h
          (try clear h)
          go_simp
          (try with_reducible rfl)
        (try simp only [Act.put, List.getElem_toArray, List.getElem_cons_zero, List.getElem_cons_succ, List.setIfInBounds_toArray, List.set_cons_zero, List.set_cons_succ])
        refine' wpAnyH_take (i := 2) (v := _) rfl (by kernel_rfl) (by kernel_rfl) (by kernel_rfl) (fun _ _ _ h => h) (Or.inl ⟨by rfl, ?hy3⟩) (by assumption) ?rest3
        case hy3 =>
          intro w h
          (try clear h)
          go_simp
          (try with_reducible rfl)
        (try simp only [Act.put, List.getElem_toArray, List.getElem_cons_zero, List.getElem_cons_succ, List.setIfInBounds_toArray, List.set_cons_zero, List.set_cons_succ])
        refine wpAnyH_ready (rs := [3, 6]) (by kernel_rfl) (by simp) ?_
        refine AllReadyH.cons rfl (fun K hK => ?_) (AllReadyH.cons rfl (fun K hK => ?_) AllReadyH.nil)
        · go_simp
          refine (HMI.out d1 F1_OM.out).mono ?_
          rintro e d2 ⟨vmi, rfl, ho, hb⟩
          have F2_OM := Lib.hid (F1_OM.out.below hb)
          have F2_Z := Lib.hid (F1_Z.out.step hb)
          have F2_MI := Lib.hid ho
          have hHeld := grownB hHeld hb
          clear ho hb
          refine hK.out _ _ hHeld (fun hHeld => ?_)
          clear hK K
          (try simp only [Act.put, List.getElem_toArray, List.getElem_cons_zero, List.getElem_cons_succ, List.setIfInBounds_toArray, List.set_cons_zero, List.set_cons_succ])
          refine wpAnyH_ready (rs := [4, 6]) (by kernel_rfl) (by simp) ?_
          refine AllReadyH.cons rfl (fun K hK => ?_) (AllReadyH.cons rfl (fun K hK => ?_) AllReadyH.nil)
          · go_simp
            refine (HIK.out _ vmi d2 F2_MI.out).mono ?_
            rintro e d3 ⟨rfl, hb⟩
            have F3_OM := Lib.hid (F2_OM.out.below hb)
            have F3_Z := Lib.hid (F2_Z.out.step hb)
            have F3_MI := Lib.hid (F2_MI.out.below hb)
            have hHeld := grownB hHeld hb
            clear hb
            refine hK.out _ _ hHeld (fun hHeld => ?_)
            clear hK K
            (try simp only [Act.put, List.getElem_toArray, List.getElem_cons_zero, List.getElem_cons_succ, List.setIfInBounds_toArray, List.set_cons_zero, List.set_cons_succ])
            refine wpAnyH_ready (rs := [5, 6]) (by kernel_rfl) (by simp) ?_
            refine AllReadyH.cons rfl (fun K hK => ?_) (AllReadyH.cons rfl (fun K hK => ?_) AllReadyH.nil)
            · go_simp
              refine (HPT.out _).mono ?_
              rintro e d4 ⟨rfl, hb⟩
              have F4_OM := Lib.hid (F3_OM.out.below hb)
              have F4_Z := Lib.hid (F3_Z.out.step hb)
              have F4_MI := Lib.hid (F3_MI.out.below hb)
              have hHeld := grownB hHeld hb
              clear hb
              refine hK.out _ _ hHeld (fun hHeld => ?_)
              clear hK K
              (try simp only [Act.put, List.getElem_toArray, List.getElem_cons_zero, List.getElem_cons_succ, List.setIfInBounds_toArray, List.set_cons_zero, List.set_cons_succ])
              refine wpAnyH_ready (rs := [6]) (by kernel_rfl) (by simp) ?_
              refine AllReadyH.cons rfl (fun K hK => ?_) AllReadyH.nil
              go_simp
              obtain ⟨d5, hdw⟩ : ∃ w', w' = d4.alloc (.cells #[.int .i64 0, .int .i64 0] 25) := ⟨_, rfl⟩
              rw [← hdw]
              have hb : Below d4.heap.size d4 d5 := by rw [hdw]; exact belowa (Below.refl _ _) _
              have F5_OM := Lib.hid (F4_OM.out.below hb)
              have F5_Z := Lib.hid (F4_Z.out.step hb)
              have F5_MI := Lib.hid (F4_MI.out.below hb)
              have F5_PB := Lib.hid (show PB w5.heap.size d4.heap.size 0 0 d5 by rw [hdw]; exact PB.start _ _ _ hHeld.size)
              have hHeld := grownB hHeld hb
              clear hdw hb
              refine hK.out _ _ hHeld (fun hHeld => ?_)
              clear hK K
              (try simp only [Act.put, List.getElem_toArray, List.getElem_cons_zero, List.getElem_cons_succ, List.setIfInBounds_toArray, List.set_cons_zero, List.set_cons_succ])
              refine wpAnyH_ready (rs := [7]) (by kernel_rfl) (by simp) ?_
              refine AllReadyH.cons rfl (fun K hK => ?_) AllReadyH.nil
              have pb := F5_PB.out
              have ⟨q0, q1, q2, q3, q4, q5⟩ := pb
              go_simp
              refine hK.out _ _ (grownFresh (grownFresh hHeld F5_PB.out.ge _ _) F5_PB.out.ge _ _) (fun hHeld => ?_)
              clear pb q0 q1 q2 q3 q4 q5
              clear hK K
              (try simp only [Act.put])
              refine wpAnyH_done (by kernel_rfl) ?_ _
              have HP6 := Lib.hid (F5_PB.out.store PX PY)
              have HZ6 := Lib.hid (F5_Z.out.other F5_PB.out.ge HLT5.out PX PY)
              obtain ⟨w6, hw6⟩ : ∃ w', w' = (d5.setCell ⟨d4.heap.size, 0, none⟩ (.int .i64 PX)).setCell ⟨d4.heap.size, 1, none⟩ (.int .i64 PY) := ⟨_, rfl⟩
              rw [← hw6] at HP6 HZ6 ⊢
              clear hw6 hHeld
              by_cases hpar : r = 0
              · have HS := Lib.hid (HEV.out hpar)
                subst hpar
                have HZ7 := Lib.hid HZ6.out
                have HP7 := Lib.hid HP6.out
                have HPL := Lib.hid HPL0.out
                obtain ⟨z0, z1, z2, z3, z4, z5, z6, z7, z8, z9, z10⟩ := HZ7.out
                obtain ⟨p0, p1, p2, p3, p4, p5⟩ := HP7.out
                go_wp2_with fail
                refine (HPL.out _).mono ?_
                rintro e w9 ⟨rfl, hb⟩
                have HZ9 := Lib.hid (HZ7.out.step hb)
                clear hb z0 z1 z2 z3 z4 z5 z6 z7 z8 z9 z10 p0 p1 p2 p3 p4 p5
                obtain ⟨z0, z1, z2, z3, z4, z5, z6, z7, z8, z9, z10⟩ := HZ9.out
                go_wp2_with fail
                go_roundw
                case rel => exact ⟨k + 1, by omega, by go_num, by rw [← HS.out.1, ← HS.out.2]; exact HZ9.out.store _ _⟩
                case measure => simp [intOf]; omega
              · have hr1 : r = 1 := by omega
                have HS := Lib.hid (HOD.out hr1)
                subst hr1
                obtain ⟨q0, q1, q2, q3, q4, q5⟩ := HP6.out
                have HP7 := Lib.hid (HP6.out.store (-PX) (-PY))
                have HZ7 := Lib.hid (HZ6.out.other HP6.out.ge HLT5.out (-PX) (-PY))
                have HPL := Lib.hid HPL1.out
                obtain ⟨z0, z1, z2, z3, z4, z5, z6, z7, z8, z9, z10⟩ := HZ7.out
                obtain ⟨p0, p1, p2, p3, p4, p5⟩ := HP7.out
                go_wp2_with fail
                refine (HPL.out _).mono ?_
                rintro e w9 ⟨rfl, hb⟩
                have HZ9 := Lib.hid (HZ7.out.step hb)
                clear hb q0 q1 q2 q3 q4 q5 z0 z1 z2 z3 z4 z5 z6 z7 z8 z9 z10 p0 p1 p2 p3 p4 p5
                obtain ⟨z0, z1, z2, z3, z4, z5, z6, z7, z8, z9, z10⟩ := HZ9.out
                go_wp2_with fail
                go_roundw
                case rel => exact ⟨k + 1, by omega, by go_num, by rw [← HS.out.1, ← HS.out.2]; exact HZ9.out.store _ _⟩
                case measure => simp [intOf]; omega
            · go_simp
              obtain ⟨d4, hdw⟩ : ∃ w', w' = d3.alloc (.cells #[.int .i64 0, .int .i64 0] 25) := ⟨_, rfl⟩
              rw [← hdw]
              have hb : Below d3.heap.size d3 d4 := by rw [hdw]; exact belowa (Below.refl _ _) _
              have F4_OM := Lib.hid (F3_OM.out.below hb)
              have F4_Z := Lib.hid (F3_Z.out.step hb)
              have F4_MI := Lib.hid (F3_MI.out.below hb)
              have F4_PB := Lib.hid (show PB w5.heap.size d3.heap.size 0 0 d4 by rw [hdw]; exact PB.start _ _ _ hHeld.size)
              have hHeld := grownB hHeld hb
              clear hdw hb
              refine hK.out _ _ hHeld (fun hHeld => ?_)
              clear hK K
              (try simp only [Act.put, List.getElem_toArray, List.getElem_cons_zero, List.getElem_cons_succ, List.setIfInBounds_toArray, List.set_cons_zero, List.set_cons_succ])
              refine wpAnyH_ready (rs := [5]) (by kernel_rfl) (by simp) ?_
              refine AllReadyH.cons rfl (fun K hK => ?_) AllReadyH.nil
              go_simp
              refine (HPT.out _).mono ?_
              rintro e d5 ⟨rfl, hb⟩
              have F5_OM := Lib.hid (F4_OM.out.below hb)
              have F5_Z := Lib.hid (F4_Z.out.step hb)
              have F5_MI := Lib.hid (F4_MI.out.below hb)
              have F5_PB := Lib.hid (F4_PB.out.step hb)
              have hHeld := grownB hHeld hb
              clear hb
              refine hK.out _ _ hHeld (fun hHeld => ?_)
              clear hK K
              (try simp only [Act.put, List.getElem_toArray, List.getElem_cons_zero, List.getElem_cons_succ, List.setIfInBounds_toArray, List.set_cons_zero, List.set_cons_succ])
              refine wpAnyH_ready (rs := [7]) (by kernel_rfl) (by simp) ?_
              refine AllReadyH.cons rfl (fun K hK => ?_) AllReadyH.nil
              have pb := F5_PB.out
              have ⟨q0, q1, q2, q3, q4, q5⟩ := pb
              go_simp
              refine hK.out _ _ (grownFresh (grownFresh hHeld F5_PB.out.ge _ _) F5_PB.out.ge _ _) (fun hHeld => ?_)
              clear pb q0 q1 q2 q3 q4 q5
              clear hK K
              (try simp only [Act.put])
              refine wpAnyH_done (by kernel_rfl) ?_ _
              have HP6 := Lib.hid (F5_PB.out.store PX PY)
              have HZ6 := Lib.hid (F5_Z.out.other F5_PB.out.ge HLT5.out PX PY)
              obtain ⟨w6, hw6⟩ : ∃ w', w' = (d5.setCell ⟨d3.heap.size, 0, none⟩ (.int .i64 PX)).setCell ⟨d3.heap.size, 1, none⟩ (.int .i64 PY) := ⟨_, rfl⟩
              rw [← hw6] at HP6 HZ6 ⊢
              clear hw6 hHeld
              by_cases hpar : r = 0
              · have HS := Lib.hid (HEV.out hpar)
                subst hpar
                have HZ7 := Lib.hid HZ6.out
                have HP7 := Lib.hid HP6.out
                have HPL := Lib.hid HPL0.out
                obtain ⟨z0, z1, z2, z3, z4, z5, z6, z7, z8, z9, z10⟩ := HZ7.out
                obtain ⟨p0, p1, p2, p3, p4, p5⟩ := HP7.out
                go_wp2_with fail
                refine (HPL.out _).mono ?_
                rintro e w9 ⟨rfl, hb⟩
                have HZ9 := Lib.hid (HZ7.out.step hb)
                clear hb z0 z1 z2 z3 z4 z5 z6 z7 z8 z9 z10 p0 p1 p2 p3 p4 p5
                obtain ⟨z0, z1, z2, z3, z4, z5, z6, z7, z8, z9, z10⟩ := HZ9.out
                go_wp2_with fail
                go_roundw
                case rel => exact ⟨k + 1, by omega, by go_num, by rw [← HS.out.1, ← HS.out.2]; exact HZ9.out.store _ _⟩
                case measure => simp [intOf]; omega
              · have hr1 : r = 1 := by omega
                have HS := Lib.hid (HOD.out hr1)
                subst hr1
                obtain ⟨q0, q1, q2, q3, q4, q5⟩ := HP6.out
                have HP7 := Lib.hid (HP6.out.store (-PX) (-PY))
                have HZ7 := Lib.hid (HZ6.out.other HP6.out.ge HLT5.out (-PX) (-PY))
                have HPL := Lib.hid HPL1.out
                obtain ⟨z0, z1, z2, z3, z4, z5, z6, z7, z8, z9, z10⟩ := HZ7.out
                obtain ⟨p0, p1, p2, p3, p4, p5⟩ := HP7.out
                go_wp2_with fail
                refine (HPL.out _).mono ?_
                rintro e w9 ⟨rfl, hb⟩
                have HZ9 := Lib.hid (HZ7.out.step hb)
                clear hb q0 q1 q2 q3 q4 q5 z0 z1 z2 z3 z4 z5 z6 z7 z8 z9 z10 p0 p1 p2 p3 p4 p5
                obtain ⟨z0, z1, z2, z3, z4, z5, z6, z7, z8, z9, z10⟩ := HZ9.out
                go_wp2_with fail
                go_roundw
                case rel => exact ⟨k + 1, by omega, by go_num, by rw [← HS.out.1, ← HS.out.2]; exact HZ9.out.store _ _⟩
                case measure => simp [intOf]; omega
          · go_simp
            obtain ⟨d3, hdw⟩ : ∃ w', w' = d2.alloc (.cells #[.int .i64 0, .int .i64 0] 25) := ⟨_, rfl⟩
            rw [← hdw]
            have hb : Below d2.heap.size d2 d3 := by rw [hdw]; exact belowa (Below.refl _ _) _
            have F3_OM := Lib.hid (F2_OM.out.below hb)
            have F3_Z := Lib.hid (F2_Z.out.step hb)
            have F3_MI := Lib.hid (F2_MI.out.below hb)
            have F3_PB := Lib.hid (show PB w5.heap.size d2.heap.size 0 0 d3 by rw [hdw]; exact PB.start _ _ _ hHeld.size)
            have hHeld := grownB hHeld hb
            clear hdw hb
            refine hK.out _ _ hHeld (fun hHeld => ?_)
            clear hK K
            (try simp only [Act.put, List.getElem_toArray, List.getElem_cons_zero, List.getElem_cons_succ, List.setIfInBounds_toArray, List.set_cons_zero, List.set_cons_succ])
            refine wpAnyH_ready (rs := [4]) (by kernel_rfl) (by simp) ?_
            refine AllReadyH.cons rfl (fun K hK => ?_) AllReadyH.nil
            go_simp
            refine (HIK.out _ vmi d3 F3_MI.out).mono ?_
            rintro e d4 ⟨rfl, hb⟩
            have F4_OM := Lib.hid (F3_OM.out.below hb)
            have F4_Z := Lib.hid (F3_Z.out.step hb)
            have F4_MI := Lib.hid (F3_MI.out.below hb)
            have F4_PB := Lib.hid (F3_PB.out.step hb)
            have hHeld := grownB hHeld hb
            clear hb
            refine hK.out _ _ hHeld (fun hHeld => ?_)
            clear hK K
            (try simp only [Act.put, List.getElem_toArray, List.getElem_cons_zero, List.getElem_cons_succ, List.setIfInBounds_toArray, List.set_cons_zero, List.set_cons_succ])
            refine wpAnyH_ready (rs := [5]) (by kernel_rfl) (by simp) ?_
            refine AllReadyH.cons rfl (fun K hK => ?_) AllReadyH.nil
            go_simp
            refine (HPT.out _).mono ?_
            rintro e d5 ⟨rfl, hb⟩
            have F5_OM := Lib.hid (F4_OM.out.below hb)
            have F5_Z := Lib.hid (F4_Z.out.step hb)
            have F5_MI := Lib.hid (F4_MI.out.below hb)
            have F5_PB := Lib.hid (F4_PB.out.step hb)
            have hHeld := grownB hHeld hb
            clear hb
            refine hK.out _ _ hHeld (fun hHeld => ?_)
            clear hK K
            (try simp only [Act.put, List.getElem_toArray, List.getElem_cons_zero, List.getElem_cons_succ, List.setIfInBounds_toArray, List.set_cons_zero, List.set_cons_succ])
            refine wpAnyH_ready (rs := [7]) (by kernel_rfl) (by simp) ?_
            refine AllReadyH.cons rfl (fun K hK => ?_) AllReadyH.nil
            have pb := F5_PB.out
            have ⟨q0, q1, q2, q3, q4, q5⟩ := pb
            go_simp
            refine hK.out _ _ (grownFresh (grownFresh hHeld F5_PB.out.ge _ _) F5_PB.out.ge _ _) (fun hHeld => ?_)
            clear pb q0 q1 q2 q3 q4 q5
            clear hK K
            (try simp only [Act.put])
            refine wpAnyH_done (by kernel_rfl) ?_ _
            have HP6 := Lib.hid (F5_PB.out.store PX PY)
            have HZ6 := Lib.hid (F5_Z.out.other F5_PB.out.ge HLT5.out PX PY)
            obtain ⟨w6, hw6⟩ : ∃ w', w' = (d5.setCell ⟨d2.heap.size, 0, none⟩ (.int .i64 PX)).setCell ⟨d2.heap.size, 1, none⟩ (.int .i64 PY) := ⟨_, rfl⟩
            rw [← hw6] at HP6 HZ6 ⊢
            clear hw6 hHeld
            by_cases hpar : r = 0
            · have HS := Lib.hid (HEV.out hpar)
              subst hpar
              have HZ7 := Lib.hid HZ6.out
              have HP7 := Lib.hid HP6.out
              have HPL := Lib.hid HPL0.out
              obtain ⟨z0, z1, z2, z3, z4, z5, z6, z7, z8, z9, z10⟩ := HZ7.out
              obtain ⟨p0, p1, p2, p3, p4, p5⟩ := HP7.out
              go_wp2_with fail
              refine (HPL.out _).mono ?_
              rintro e w9 ⟨rfl, hb⟩
              have HZ9 := Lib.hid (HZ7.out.step hb)
              clear hb z0 z1 z2 z3 z4 z5 z6 z7 z8 z9 z10 p0 p1 p2 p3 p4 p5
              obtain ⟨z0, z1, z2, z3, z4, z5, z6, z7, z8, z9, z10⟩ := HZ9.out
              go_wp2_with fail
              go_roundw
              case rel => exact ⟨k + 1, by omega, by go_num, by rw [← HS.out.1, ← HS.out.2]; exact HZ9.out.store _ _⟩
              case measure => simp [intOf]; omega
            · have hr1 : r = 1 := by omega
              have HS := Lib.hid (HOD.out hr1)
              subst hr1
              obtain ⟨q0, q1, q2, q3, q4, q5⟩ := HP6.out
              have HP7 := Lib.hid (HP6.out.store (-PX) (-PY))
              have HZ7 := Lib.hid (HZ6.out.other HP6.out.ge HLT5.out (-PX) (-PY))
              have HPL := Lib.hid HPL1.out
              obtain ⟨z0, z1, z2, z3, z4, z5, z6, z7, z8, z9, z10⟩ := HZ7.out
              obtain ⟨p0, p1, p2, p3, p4, p5⟩ := HP7.out
              go_wp2_with fail
              refine (HPL.out _).mono ?_
              rintro e w9 ⟨rfl, hb⟩
              have HZ9 := Lib.hid (HZ7.out.step hb)
              clear hb q0 q1 q2 q3 q4 q5 z0 z1 z2 z3 z4 z5 z6 z7 z8 z9 z10 p0 p1 p2 p3 p4 p5
              obtain ⟨z0, z1, z2, z3, z4, z5, z6, z7, z8, z9, z10⟩ := HZ9.out
              go_wp2_with fail
              go_roundw
              case rel => exact ⟨k + 1, by omega, by go_num, by rw [← HS.out.1, ← HS.out.2]; exact HZ9.out.store _ _⟩
              case measure => simp [intOf]; omega
        · go_simp
          obtain ⟨d2, hdw⟩ : ∃ w', w' = d1.alloc (.cells #[.int .i64 0, .int .i64 0] 25) := ⟨_, rfl⟩
          rw [← hdw]
          have hb : Below d1.heap.size d1 d2 := by rw [hdw]; exact belowa (Below.refl _ _) _
          have F2_OM := Lib.hid (F1_OM.out.below hb)
          have F2_Z := Lib.hid (F1_Z.out.step hb)
          have F2_PB := Lib.hid (show PB w5.heap.size d1.heap.size 0 0 d2 by rw [hdw]; exact PB.start _ _ _ hHeld.size)
          have hHeld := grownB hHeld hb
          clear hdw hb
          refine hK.out _ _ hHeld (fun hHeld => ?_)
          clear hK K
          (try simp only [Act.put, List.getElem_toArray, List.getElem_cons_zero, List.getElem_cons_succ, List.setIfInBounds_toArray, List.set_cons_zero, List.set_cons_succ])
          refine wpAnyH_ready (rs := [3]) (by kernel_rfl) (by simp) ?_
          refine AllReadyH.cons rfl (fun K hK => ?_) AllReadyH.nil
          go_simp
          refine (HMI.out d2 F2_OM.out).mono ?_
          rintro e d3 ⟨vmi, rfl, ho, hb⟩
          have F3_OM := Lib.hid (F2_OM.out.below hb)
          have F3_Z := Lib.hid (F2_Z.out.step hb)
          have F3_PB := Lib.hid (F2_PB.out.step hb)
          have F3_MI := Lib.hid ho
          have hHeld := grownB hHeld hb
          clear ho hb
          refine hK.out _ _ hHeld (fun hHeld => ?_)
          clear hK K
          (try simp only [Act.put, List.getElem_toArray, List.getElem_cons_zero, List.getElem_cons_succ, List.setIfInBounds_toArray, List.set_cons_zero, List.set_cons_succ])
          refine wpAnyH_ready (rs := [4]) (by kernel_rfl) (by simp) ?_
          refine AllReadyH.cons rfl (fun K hK => ?_) AllReadyH.nil
          go_simp
          refine (HIK.out _ vmi d3 F3_MI.out).mono ?_
          rintro e d4 ⟨rfl, hb⟩
          have F4_OM := Lib.hid (F3_OM.out.below hb)
          have F4_Z := Lib.hid (F3_Z.out.step hb)
          have F4_PB := Lib.hid (F3_PB.out.step hb)
          have F4_MI := Lib.hid (F3_MI.out.below hb)
          have hHeld := grownB hHeld hb
          clear hb
          refine hK.out _ _ hHeld (fun hHeld => ?_)
          clear hK K
          (try simp only [Act.put, List.getElem_toArray, List.getElem_cons_zero, List.getElem_cons_succ, List.setIfInBounds_toArray, List.set_cons_zero, List.set_cons_succ])
          refine wpAnyH_ready (rs := [5]) (by kernel_rfl) (by simp) ?_
          refine AllReadyH.cons rfl (fun K hK => ?_) AllReadyH.nil
          go_simp
          refine (HPT.out _).mono ?_
          rintro e d5 ⟨rfl, hb⟩
          have F5_OM := Lib.hid (F4_OM.out.below hb)
          have F5_Z := Lib.hid (F4_Z.out.step hb)
          have F5_PB := Lib.hid (F4_PB.out.step hb)
          have F5_MI := Lib.hid (F4_MI.out.below hb)
          have hHeld := grownB hHeld hb
          clear hb
          refine hK.out _ _ hHeld (fun hHeld => ?_)
          clear hK K
          (try simp only [Act.put, List.getElem_toArray, List.getElem_cons_zero, List.getElem_cons_succ, List.setIfInBounds_toArray, List.set_cons_zero, List.set_cons_succ])
          refine wpAnyH_ready (rs := [7]) (by kernel_rfl) (by simp) ?_
          refine AllReadyH.cons rfl (fun K hK => ?_) AllReadyH.nil
          have pb := F5_PB.out
          have ⟨q0, q1, q2, q3, q4, q5⟩ := pb
          go_simp
          refine hK.out _ _ (grownFresh (grownFresh hHeld F5_PB.out.ge _ _) F5_PB.out.ge _ _) (fun hHeld => ?_)
          clear pb q0 q1 q2 q3 q4 q5
          clear hK K
          (try simp only [Act.put])
          refine wpAnyH_done (by kernel_rfl) ?_ _
          have HP6 := Lib.hid (F5_PB.out.store PX PY)
          have HZ6 := Lib.hid (F5_Z.out.other F5_PB.out.ge HLT5.out PX PY)
          obtain ⟨w6, hw6⟩ : ∃ w', w' = (d5.setCell ⟨d1.heap.size, 0, none⟩ (.int .i64 PX)).setCell ⟨d1.heap.size, 1, none⟩ (.int .i64 PY) := ⟨_, rfl⟩
          rw [← hw6] at HP6 HZ6 ⊢
          clear hw6 hHeld
          by_cases hpar : r = 0
          · have HS := Lib.hid (HEV.out hpar)
            subst hpar
            have HZ7 := Lib.hid HZ6.out
            have HP7 := Lib.hid HP6.out
            have HPL := Lib.hid HPL0.out
            obtain ⟨z0, z1, z2, z3, z4, z5, z6, z7, z8, z9, z10⟩ := HZ7.out
            obtain ⟨p0, p1, p2, p3, p4, p5⟩ := HP7.out
            go_wp2_with fail
            refine (HPL.out _).mono ?_
            rintro e w9 ⟨rfl, hb⟩
            have HZ9 := Lib.hid (HZ7.out.step hb)
            clear hb z0 z1 z2 z3 z4 z5 z6 z7 z8 z9 z10 p0 p1 p2 p3 p4 p5
            obtain ⟨z0, z1, z2, z3, z4, z5, z6, z7, z8, z9, z10⟩ := HZ9.out
            go_wp2_with fail
            go_roundw
            case rel => exact ⟨k + 1, by omega, by go_num, by rw [← HS.out.1, ← HS.out.2]; exact HZ9.out.store _ _⟩
            case measure => simp [intOf]; omega
          · have hr1 : r = 1 := by omega
            have HS := Lib.hid (HOD.out hr1)
            subst hr1
            obtain ⟨q0, q1, q2, q3, q4, q5⟩ := HP6.out
            have HP7 := Lib.hid (HP6.out.store (-PX) (-PY))
            have HZ7 := Lib.hid (HZ6.out.other HP6.out.ge HLT5.out (-PX) (-PY))
            have HPL := Lib.hid HPL1.out
            obtain ⟨z0, z1, z2, z3, z4, z5, z6, z7, z8, z9, z10⟩ := HZ7.out
            obtain ⟨p0, p1, p2, p3, p4, p5⟩ := HP7.out
            go_wp2_with fail
            refine (HPL.out _).mono ?_
            rintro e w9 ⟨rfl, hb⟩
            have HZ9 := Lib.hid (HZ7.out.step hb)
            clear hb q0 q1 q2 q3 q4 q5 z0 z1 z2 z3 z4 z5 z6 z7 z8 z9 z10 p0 p1 p2 p3 p4 p5
            obtain ⟨z0, z1, z2, z3, z4, z5, z6, z7, z8, z9, z10⟩ := HZ9.out
            go_wp2_with fail
            go_roundw
            case rel => exact ⟨k + 1, by omega, by go_num, by rw [← HS.out.1, ← HS.out.2]; exact HZ9.out.store _ _⟩
            case measure => simp [intOf]; omega
      · obtain rfl : k = n := by omega
        obtain ⟨SX, hX⟩ : ∃ q, q = sumN X k := ⟨_, rfl⟩
        obtain ⟨SY, hY⟩ : ∃ q, q = sumN Y k := ⟨_, rfl⟩
        rw [← hX, ← hY] at HZ
        have HS := Lib.hid (And.intro hX hY)
        clear hX hY
        obtain ⟨z0, z1, z2, z3, z4, z5, z6, z7, z8, z9, z10⟩ := HZ.out
        go_wp2_with fail
        (try simp only [Exit.inBlock, Exit.then])
        obtain ⟨e0, e1, e2⟩ := HZ.out.ret
        refine bodyPost_ret (by simp [results, Try.results24, go_sem, e0, e1]; try rfl) rfl ?_
        exact ⟨by rw [← HS.out.1, ← HS.out.2], e2⟩
end Go.Proofs.Ytccjmigdebchiaa
