/- The model's sdCode, sdMatch, MatchOf. -/
import Derived.Test.YtapmehgdnofgnabSp
import Derived.Test.YtapmehgdnofgnabSCr
import Derived.Test.YtapmehgdnofgnabSSpH
import Derived.Test.YtapmehgdnofgnabRg
namespace Go.Proofs.Ytapmehgdnofgnab
set_option maxRecDepth 100000
open Go.RowKit

set_option maxHeartbeats 1000000 in
theorem sdCode_any (v : Value) (s : List Int) (w : World) (hv : IS w v s) (hlen : s.length ≤ 1048576) : Calls Try.prog 36 #[v] w (Ret w (.bool (cdOk s))) := by
  have HP := Lib.hid (phIs_any v s w hv hlen)
  obtain ⟨a, cap, rfl⟩ := hv.slice
  unfold cdOk
  obtain ⟨n, hn⟩ : ∃ n, n = s.length := ⟨_, rfl⟩
  rw [← hn] at HP ⊢
  cases hs : isSeq s with
  | false =>
    rw [hs] at HP
    clear hv hs hn hlen
    go_enter Try.func36, Try.ntmps36
    go_wp2_with fail
    refine (HP.out).mono ?_
    rintro e w1 ⟨rfl, hb⟩
    go_wp2_with fail
    go_returns
    exact ⟨rfl, hb⟩
  | true =>
    rw [hs] at HP
    clear hv hs hn hlen
    by_cases h0 : n = 0
    · subst h0
      go_enter Try.func36, Try.ntmps36
      go_wp2_with fail
      refine (HP.out).mono ?_
      rintro e w1 ⟨rfl, hb⟩
      go_wp2_with fail
      go_returns
      exact ⟨rfl, hb⟩
    · have h1 : (n : Int) > 0 := by omega
      rw [decide_eq_true (show 1 ≤ n by omega)]
      go_enter Try.func36, Try.ntmps36
      go_wp2_with fail
      refine (HP.out).mono ?_
      rintro e w1 ⟨rfl, hb⟩
      go_wp2_with fail
      go_returns
      exact ⟨ret_bool (by simp; omega), hb⟩
set_option maxRecDepth 100000 in
set_option maxHeartbeats 4000000 in
theorem sdMatch_any (va vs : Value) (l : List (Int × Int)) (s : List Int) (o : Nat) (w : World) (hva : IG w va l) (hvs : IS w vs s) (hg : goodL l = true) (hs : isSeq s = true) (ho : o + s.length ≤ l.length) (h64 : l.length ≤ 1048576) :
    Calls Try.prog 38 #[va, vs, .int .i64 o] w (Ret w (.agg #[.int .i64 (mtX l s o), .int .i64 (mtY l s o)])) := by
  have h32 := isSeq_len hs
  obtain ⟨pa, ca, rfl⟩ := hva.slice
  obtain ⟨ps, cs, rfl⟩ := hvs.slice
  obtain ⟨GX, hGX⟩ : ∃ G : Nat → Int, G = fun i => nrX (gre l (o + i)) (gim l (o + i)) (s.getD i 0).toNat := ⟨_, rfl⟩
  obtain ⟨GY, hGY⟩ : ∃ G : Nat → Int, G = fun i => nrY (gre l (o + i)) (gim l (o + i)) (s.getD i 0).toNat := ⟨_, rfl⟩
  have e1 : mtX l s o = sumN GX s.length := by rw [hGX]; rfl
  have e2 : mtY l s o = sumN GY s.length := by rw [hGY]; rfl
  rw [e1, e2]
  have HLE := Lib.hid (fun k (hk : k ≤ s.length) => show (-32000000 ≤ sumN GX k ∧ sumN GX k ≤ 32000000) ∧ (-32000000 ≤ sumN GY k ∧ sumN GY k ≤ 32000000) from by
    have := ma_le (fun i => gre l (o + i)) (fun i => gim l (o + i)) s s.length h32 (fun i hi => good_in (goodL_at hg (o + i) (by omega))) k hk
    rw [hGX, hGY]; exact this)
  have HGD := Lib.hid (fun i (hi : i < s.length) => good_in (goodL_at hg (o + i) (by omega)))
  have HK := Lib.hid (fun i (hi : i < s.length) => allIn_getD (isSeq_all hs) i hi)
  have HGE := Lib.hid (fun i => And.intro (show GX i = nrX (gre l (o + i)) (gim l (o + i)) (s.getD i 0).toNat by rw [hGX]) (show GY i = nrY (gre l (o + i)) (gim l (o + i)) (s.getD i 0).toNat by rw [hGY]))
  have HVA := Lib.hid hva
  have HVS := Lib.hid hvs
  have HL := Lib.hid ho
  obtain ⟨n, hn⟩ : ∃ n, n = s.length := ⟨_, rfl⟩
  rw [← hn] at HLE HGD HK HVS HL h32 ⊢
  have HN := Lib.hid hn
  obtain ⟨L, hL⟩ : ∃ n, n = l.length := ⟨_, rfl⟩
  rw [← hL] at HL h64 ⊢
  have HLL := Lib.hid hL
  clear hGX hGY e1 e2 hn hL hva hvs hg hs ho
  go_enter Try.func38, Try.ntmps38
  go_wp2_with fail
  go_loopw [13] (fun i wr => ∃ k : Nat, k ≤ n ∧ i = .int .i64 k ∧ ZS w (sumN GX k) (sumN GY k) wr) (fun i _ => n - (intOf i).toNat)
  case atStart => exact ⟨0, Nat.zero_le _, rfl, ZS.start w _⟩
  case round =>
    obtain ⟨k, hk, rfl, hz⟩ := hrel
    by_cases hlt : k < n
    · have hol : o + k < L := by have := HL.out; omega
      obtain ⟨b, off, rfl, hc1, hc2⟩ : ∃ b off, pa = some ⟨b, off, none⟩ ∧ w.cell? ⟨b, off + (o + k) * 2, none⟩ = some (.int .i64 (gre l (o + k))) ∧ w.cell? ⟨b, off + (o + k) * 2 + 1, none⟩ = some (.int .i64 (gim l (o + k))) := by
        have hl : o + k < l.length := by rw [← HLL.out]; exact hol
        rcases HVA.out with ⟨h0, _⟩ | ⟨_, bb, off, cap', hv, _, hc⟩
        · rw [h0] at hl; simp at hl
        · injection hv with e1 e2 e3
          exact ⟨bb, off, e1, hc (o + k) hl⟩
      obtain ⟨b2, off2, rfl, hck⟩ := IS.cellsAt (a := ps) (cap := cs) (l := s) (by rw [← HN.out]; exact HVS.out) (by rw [← HN.out]; omega)
      have c3 := keepc hz.below (hck k (by rw [← HN.out]; exact hlt))
      have hNE : w.heap.size + 1 ≠ b := by have := World.block_lt_of_cell? w _ hc1; simp at this; omega
      have NE := Lib.hid hNE
      have C1 := Lib.hid (keepc hz.below hc1)
      have C2 := Lib.hid (keepc hz.below hc2)
      have hgd := HGD.out k hlt
      have hkk := HK.out k hlt
      have hge := HGE.out k
      have hle := HLE.out k hk
      have hle2 := HLE.out (k + 1) (by omega)
      have hx1 : sumN GX (k + 1) = sumN GX k + GX k := rfl
      have hy1 : sumN GY (k + 1) = sumN GY k + GY k := rfl
      obtain ⟨x, hx⟩ : ∃ x, x = gre l (o + k) := ⟨_, rfl⟩
      obtain ⟨y, hy⟩ : ∃ x, x = gim l (o + k) := ⟨_, rfl⟩
      rw [← hx] at C1 hgd hge
      rw [← hy] at C2 hgd hge
      obtain ⟨a, ha⟩ : ∃ a, a = s.getD k 0 := ⟨_, rfl⟩
      rw [← ha] at c3 hkk hge
      have hm := nr_mulM x y a.toNat (by omega)
      rw [show ((a.toNat : Nat) : Int) = a by omega, ← hge.1, ← hge.2] at hm
      have HVO := Lib.hid (phValueM_any (-a) (by omega) (by omega))
      have hv1 := vx_one ((-a) % 4)
      have hv2 := vy_one ((-a) % 4)
      have HTM := Lib.hid (phTimesB_any x y (vx ((-a) % 4)) (vy ((-a) % 4)) hgd.1 hgd.2 (by omega) (by omega))
      rw [hm.1, hm.2] at HTM
      have HPL := Lib.hid (phPlusB_any (sumN GX k) (sumN GY k) (GX k) (GY k) (by omega) (by omega) (by omega) (by omega))
      rw [← hx1, ← hy1] at HPL
      have HNG := Lib.hid (show IntKind.i64.wrap (-a) = -a from IntWalk.i64_in _ (by omega))
      have HAD := Lib.hid (show IntKind.i64.wrap ((o : Int) + (k : Int)) = ((o + k : Nat) : Int) from by rw [IntWalk.i64_in _ (by omega)]; simp)
      have HI0 := Lib.hid (show (0 : Int) ≤ ((o + k : Nat) : Int) by omega)
      have HI1 := Lib.hid (show ((o + k : Nat) : Int) < (L : Int) by omega)
      obtain ⟨p, hp⟩ : ∃ p, p = vx ((-a) % 4) := ⟨_, rfl⟩
      obtain ⟨q, hq⟩ : ∃ p, p = vy ((-a) % 4) := ⟨_, rfl⟩
      rw [← hp, ← hq] at HVO HTM
      obtain ⟨u, hu⟩ : ∃ p, p = GX k := ⟨_, rfl⟩
      obtain ⟨v, hv⟩ : ∃ p, p = GY k := ⟨_, rfl⟩
      rw [← hu, ← hv] at HTM HPL
      obtain ⟨X, hX⟩ : ∃ p, p = sumN GX k := ⟨_, rfl⟩
      obtain ⟨Y, hY⟩ : ∃ p, p = sumN GY k := ⟨_, rfl⟩
      obtain ⟨X1, hX1⟩ : ∃ p, p = sumN GX (k + 1) := ⟨_, rfl⟩
      obtain ⟨Y1, hY1⟩ : ∃ p, p = sumN GY (k + 1) := ⟨_, rfl⟩
      rw [← hX, ← hY, ← hX1, ← hY1] at HPL
      rw [← hX, ← hY] at hz
      have HZ0 := Lib.hid hz
      have HX1 := Lib.hid hX1
      have HY1 := Lib.hid hY1
      obtain ⟨j, hj⟩ : ∃ j, j = o + k := ⟨_, rfl⟩
      rw [← hj] at C1 C2 HAD HI0 HI1 hol
      have h0 : (0 : Int) ≤ (k : Int) := by omega
      have h1 : (k : Int) < (n : Int) := by omega
      clear hgd hkk hge hle hle2 hx1 hy1 hx hy ha hm hv1 hv2 hp hq hu hv hX hY hX1 hY1 hz hc1 hc2 hck hNE hj
      go_wp2_with fail
      refine wp_region_held_drew (S := (fun w' => World.grownBy wr w' (some (w.heap.size + 1)))) (by kernel_rfl) (grownDrew (World.grownBy.refl _ _)) ?_
      obtain ⟨d1, hdw⟩ : ∃ w', w' = wr.drew := ⟨_, rfl⟩
      rw [← hdw]
      have hb : Below wr.heap.size wr d1 := by rw [hdw]; exact belowN (Below.refl _ _) 1
      have F1_Z := Lib.hid (ZS.step HZ0.out hb)
      clear hdw hb
      intro hHeld
      refine' wpAnyH_take (i := 1) (v := _) rfl (by kernel_rfl) (by kernel_rfl) (by kernel_rfl) (fun _ _ _ h => h) (Or.inl ⟨by rfl, ?hy1⟩) (by assumption) ?rest1
      case hy1 =>
        intro w h
        (try clear h)
        go_simp
        (try with_reducible rfl)
      (try simp only [Act.put, List.getElem_toArray, List.getElem_cons_zero, List.getElem_cons_succ, List.setIfInBounds_toArray, List.set_cons_zero, List.set_cons_succ])
      refine' wpAnyH_take (i := 2) (v := _) rfl (by kernel_rfl) (by kernel_rfl) (by kernel_rfl) (fun _ _ _ h => h) (Or.inl ⟨by rfl, ?hy2⟩) (by assumption) ?rest2
      case hy2 =>
        intro w h
        (try clear h)
        go_simp
        (try with_reducible rfl)
      (try simp only [Act.put, List.getElem_toArray, List.getElem_cons_zero, List.getElem_cons_succ, List.setIfInBounds_toArray, List.set_cons_zero, List.set_cons_succ])
      refine' wpAnyH_take (i := 3) (v := _) rfl (by kernel_rfl) (by kernel_rfl) (by kernel_rfl) (fun _ _ _ h => h) (Or.inl ⟨by rfl, ?hy3⟩) (by assumption) ?rest3
      case hy3 =>
        intro w h
        (try clear h)
        go_simp
        (try with_reducible rfl)
      (try simp only [Act.put, List.getElem_toArray, List.getElem_cons_zero, List.getElem_cons_succ, List.setIfInBounds_toArray, List.set_cons_zero, List.set_cons_succ])
      refine' wpAnyH_take (i := 4) (v := _) rfl (by kernel_rfl) (by kernel_rfl) (by kernel_rfl) (fun _ _ _ h => h) (Or.inl ⟨by rfl, ?hy4⟩) (by assumption) ?rest4
      case hy4 =>
        intro w h
        have e1 := HAD.out
        (try clear h)
        go_simp
        (try with_reducible rfl)
      (try simp only [Act.put, List.getElem_toArray, List.getElem_cons_zero, List.getElem_cons_succ, List.setIfInBounds_toArray, List.set_cons_zero, List.set_cons_succ])
      refine' wpAnyH_take (i := 5) (v := _) rfl (by kernel_rfl) (by kernel_rfl) (by kernel_rfl) (fun _ _ _ h => h) (Or.inl ⟨by rfl, ?hy5⟩) (by assumption) ?rest5
      case hy5 =>
        intro w h
        have h0 := HI0.out
        have h1 := HI1.out
        (try clear h)
        go_simp
        (try with_reducible rfl)
      (try simp only [Act.put, List.getElem_toArray, List.getElem_cons_zero, List.getElem_cons_succ, List.setIfInBounds_toArray, List.set_cons_zero, List.set_cons_succ])
      refine' wpAnyH_take (i := 6) (v := _) rfl (by kernel_rfl) (by kernel_rfl) (by kernel_rfl) (fun _ _ _ h => h) (Or.inl ⟨by rfl, ?hy6⟩) (by assumption) ?rest6
      case hy6 =>
        intro w h
        have c1 := cellR h C1.out (fun e => NE.out (Option.some.inj e))
        have c2 := cellR h C2.out (fun e => NE.out (Option.some.inj e))
        (try clear h)
        go_simp
        (try with_reducible rfl)
      (try simp only [Act.put, List.getElem_toArray, List.getElem_cons_zero, List.getElem_cons_succ, List.setIfInBounds_toArray, List.set_cons_zero, List.set_cons_succ])
      refine' wpAnyH_take (i := 7) (v := _) rfl (by kernel_rfl) (by kernel_rfl) (by kernel_rfl) (fun _ _ _ h => h) (Or.inl ⟨by rfl, ?hy7⟩) (by assumption) ?rest7
      case hy7 =>
        intro w h
        (try clear h)
        go_simp
        (try with_reducible rfl)
      (try simp only [Act.put, List.getElem_toArray, List.getElem_cons_zero, List.getElem_cons_succ, List.setIfInBounds_toArray, List.set_cons_zero, List.set_cons_succ])
      refine' wpAnyH_take (i := 8) (v := _) rfl (by kernel_rfl) (by kernel_rfl) (by kernel_rfl) (fun _ _ _ h => h) (Or.inl ⟨by rfl, ?hy8⟩) (by assumption) ?rest8
      case hy8 =>
        intro w h
        have e1 := HNG.out
        (try clear h)
        go_simp
        (try with_reducible rfl)
      (try simp only [Act.put, List.getElem_toArray, List.getElem_cons_zero, List.getElem_cons_succ, List.setIfInBounds_toArray, List.set_cons_zero, List.set_cons_succ])
      refine wpAnyH_ready (rs := [0, 9]) (by kernel_rfl) (by simp) ?_
      refine AllReadyH.cons rfl (fun K hK => ?_) (AllReadyH.cons rfl (fun K hK => ?_) AllReadyH.nil)
      · have ⟨z0, z1, z2, z3, z4, z5, z6, z7, z8, z9⟩ := F1_Z.out
        go_simp
        refine hK.out _ _ hHeld (fun hHeld => ?_)
        clear hK K
        (try simp only [Act.put, List.getElem_toArray, List.getElem_cons_zero, List.setIfInBounds_toArray, List.set_cons_zero, List.set_cons_succ])
        refine wpAnyH_ready (rs := [9]) (by kernel_rfl) (by simp) ?_
        refine AllReadyH.cons rfl (fun K hK => ?_) AllReadyH.nil
        go_simp
        refine (HVO.out _).mono ?_
        rintro e d2 ⟨rfl, hb⟩
        have F2_Z := Lib.hid (ZS.step F1_Z.out hb)
        have hHeld := grownB hHeld hb
        clear hb
        refine hK.out _ _ hHeld (fun hHeld => ?_)
        clear hK K
        (try simp only [Act.put, List.getElem_toArray, List.getElem_cons_zero, List.getElem_cons_succ, List.setIfInBounds_toArray, List.set_cons_zero, List.set_cons_succ])
        refine wpAnyH_ready (rs := [10]) (by kernel_rfl) (by simp) ?_
        refine AllReadyH.cons rfl (fun K hK => ?_) AllReadyH.nil
        go_simp
        refine (HTM.out _).mono ?_
        rintro e d3 ⟨rfl, hb⟩
        have F3_Z := Lib.hid (ZS.step F2_Z.out hb)
        have hHeld := grownB hHeld hb
        clear hb
        refine hK.out _ _ hHeld (fun hHeld => ?_)
        clear hK K
        (try simp only [Act.put, List.getElem_toArray, List.getElem_cons_zero, List.getElem_cons_succ, List.setIfInBounds_toArray, List.set_cons_zero, List.set_cons_succ])
        refine wpAnyH_ready (rs := [11]) (by kernel_rfl) (by simp) ?_
        refine AllReadyH.cons rfl (fun K hK => ?_) AllReadyH.nil
        go_simp
        refine (HPL.out _).mono ?_
        rintro e d4 ⟨rfl, hb⟩
        have F4_Z := Lib.hid (ZS.step F3_Z.out hb)
        have hHeld := grownB hHeld hb
        clear hb
        refine hK.out _ _ hHeld (fun hHeld => ?_)
        clear hK K
        (try simp only [Act.put, List.getElem_toArray, List.getElem_cons_zero, List.getElem_cons_succ, List.setIfInBounds_toArray, List.set_cons_zero, List.set_cons_succ])
        refine wpAnyH_ready (rs := [12]) (by kernel_rfl) (by simp) ?_
        refine AllReadyH.cons rfl (fun K hK => ?_) AllReadyH.nil
        have ⟨z0, z1, z2, z3, z4, z5, z6, z7, z8, z9⟩ := F4_Z.out
        go_simp
        refine hK.out _ _ (grownSet (grownSet hHeld _ _) _ _) (fun hHeld => ?_)
        clear hK K
        (try simp only [Act.put])
        refine wpAnyH_done (by kernel_rfl) ?_ _
        have hz4 := F4_Z.out.store X1 Y1
        have HZ := Lib.hid hz4
        clear hz4
        go_wp2_with fail
        go_roundw
        case rel => exact ⟨k + 1, by omega, by go_num, by rw [← HX1.out, ← HY1.out]; exact HZ.out⟩
        case measure => simp [intOf]; omega
      · go_simp
        refine (HVO.out _).mono ?_
        rintro e d2 ⟨rfl, hb⟩
        have F2_Z := Lib.hid (ZS.step F1_Z.out hb)
        have hHeld := grownB hHeld hb
        clear hb
        refine hK.out _ _ hHeld (fun hHeld => ?_)
        clear hK K
        (try simp only [Act.put, List.getElem_toArray, List.getElem_cons_zero, List.getElem_cons_succ, List.setIfInBounds_toArray, List.set_cons_zero, List.set_cons_succ])
        refine wpAnyH_ready (rs := [0, 10]) (by kernel_rfl) (by simp) ?_
        refine AllReadyH.cons rfl (fun K hK => ?_) (AllReadyH.cons rfl (fun K hK => ?_) AllReadyH.nil)
        · have ⟨z0, z1, z2, z3, z4, z5, z6, z7, z8, z9⟩ := F2_Z.out
          go_simp
          refine hK.out _ _ hHeld (fun hHeld => ?_)
          clear hK K
          (try simp only [Act.put, List.getElem_toArray, List.getElem_cons_zero, List.setIfInBounds_toArray, List.set_cons_zero, List.set_cons_succ])
          refine wpAnyH_ready (rs := [10]) (by kernel_rfl) (by simp) ?_
          refine AllReadyH.cons rfl (fun K hK => ?_) AllReadyH.nil
          go_simp
          refine (HTM.out _).mono ?_
          rintro e d3 ⟨rfl, hb⟩
          have F3_Z := Lib.hid (ZS.step F2_Z.out hb)
          have hHeld := grownB hHeld hb
          clear hb
          refine hK.out _ _ hHeld (fun hHeld => ?_)
          clear hK K
          (try simp only [Act.put, List.getElem_toArray, List.getElem_cons_zero, List.getElem_cons_succ, List.setIfInBounds_toArray, List.set_cons_zero, List.set_cons_succ])
          refine wpAnyH_ready (rs := [11]) (by kernel_rfl) (by simp) ?_
          refine AllReadyH.cons rfl (fun K hK => ?_) AllReadyH.nil
          go_simp
          refine (HPL.out _).mono ?_
          rintro e d4 ⟨rfl, hb⟩
          have F4_Z := Lib.hid (ZS.step F3_Z.out hb)
          have hHeld := grownB hHeld hb
          clear hb
          refine hK.out _ _ hHeld (fun hHeld => ?_)
          clear hK K
          (try simp only [Act.put, List.getElem_toArray, List.getElem_cons_zero, List.getElem_cons_succ, List.setIfInBounds_toArray, List.set_cons_zero, List.set_cons_succ])
          refine wpAnyH_ready (rs := [12]) (by kernel_rfl) (by simp) ?_
          refine AllReadyH.cons rfl (fun K hK => ?_) AllReadyH.nil
          have ⟨z0, z1, z2, z3, z4, z5, z6, z7, z8, z9⟩ := F4_Z.out
          go_simp
          refine hK.out _ _ (grownSet (grownSet hHeld _ _) _ _) (fun hHeld => ?_)
          clear hK K
          (try simp only [Act.put])
          refine wpAnyH_done (by kernel_rfl) ?_ _
          have hz4 := F4_Z.out.store X1 Y1
          have HZ := Lib.hid hz4
          clear hz4
          go_wp2_with fail
          go_roundw
          case rel => exact ⟨k + 1, by omega, by go_num, by rw [← HX1.out, ← HY1.out]; exact HZ.out⟩
          case measure => simp [intOf]; omega
        · go_simp
          refine (HTM.out _).mono ?_
          rintro e d3 ⟨rfl, hb⟩
          have F3_Z := Lib.hid (ZS.step F2_Z.out hb)
          have hHeld := grownB hHeld hb
          clear hb
          refine hK.out _ _ hHeld (fun hHeld => ?_)
          clear hK K
          (try simp only [Act.put, List.getElem_toArray, List.getElem_cons_zero, List.getElem_cons_succ, List.setIfInBounds_toArray, List.set_cons_zero, List.set_cons_succ])
          refine wpAnyH_ready (rs := [0]) (by kernel_rfl) (by simp) ?_
          refine AllReadyH.cons rfl (fun K hK => ?_) AllReadyH.nil
          have ⟨z0, z1, z2, z3, z4, z5, z6, z7, z8, z9⟩ := F3_Z.out
          go_simp
          refine hK.out _ _ hHeld (fun hHeld => ?_)
          clear hK K
          (try simp only [Act.put, List.getElem_toArray, List.getElem_cons_zero, List.setIfInBounds_toArray, List.set_cons_zero, List.set_cons_succ])
          refine wpAnyH_ready (rs := [11]) (by kernel_rfl) (by simp) ?_
          refine AllReadyH.cons rfl (fun K hK => ?_) AllReadyH.nil
          go_simp
          refine (HPL.out _).mono ?_
          rintro e d4 ⟨rfl, hb⟩
          have F4_Z := Lib.hid (ZS.step F3_Z.out hb)
          have hHeld := grownB hHeld hb
          clear hb
          refine hK.out _ _ hHeld (fun hHeld => ?_)
          clear hK K
          (try simp only [Act.put, List.getElem_toArray, List.getElem_cons_zero, List.getElem_cons_succ, List.setIfInBounds_toArray, List.set_cons_zero, List.set_cons_succ])
          refine wpAnyH_ready (rs := [12]) (by kernel_rfl) (by simp) ?_
          refine AllReadyH.cons rfl (fun K hK => ?_) AllReadyH.nil
          have ⟨z0, z1, z2, z3, z4, z5, z6, z7, z8, z9⟩ := F4_Z.out
          go_simp
          refine hK.out _ _ (grownSet (grownSet hHeld _ _) _ _) (fun hHeld => ?_)
          clear hK K
          (try simp only [Act.put])
          refine wpAnyH_done (by kernel_rfl) ?_ _
          have hz4 := F4_Z.out.store X1 Y1
          have HZ := Lib.hid hz4
          clear hz4
          go_wp2_with fail
          go_roundw
          case rel => exact ⟨k + 1, by omega, by go_num, by rw [← HX1.out, ← HY1.out]; exact HZ.out⟩
          case measure => simp [intOf]; omega
    · obtain rfl : k = n := by omega
      obtain ⟨X, hX⟩ : ∃ X, X = sumN GX k := ⟨_, rfl⟩
      obtain ⟨Y, hY⟩ : ∃ Y, Y = sumN GY k := ⟨_, rfl⟩
      rw [← hX, ← hY] at hz
      have HX := Lib.hid hX
      have HY := Lib.hid hY
      clear hX hY
      have HZ := Lib.hid hz
      obtain ⟨z0, z1, z2, z3, z4, z5, z6, z7, z8, z9⟩ := hz
      go_wp2_with fail
      (try simp only [Exit.inBlock, Exit.then])
      obtain ⟨e0, e1, e2⟩ := HZ.out.ret
      refine bodyPost_ret (by simp [results, Try.results38, go_sem, e0, e1]; try rfl) rfl ?_
      exact ⟨by rw [HX.out, HY.out], e2⟩
set_option maxRecDepth 100000 in
set_option maxHeartbeats 2000000 in
theorem sMatchOf (va vs : Value) (l : List (Int × Int)) (s : List Int) (w : World) (hva : IG w va l) (hvs : IS w vs s) (hl : l.length ≤ 1048576) (hls : s.length ≤ 1048576) :
    Calls Try.prog 10 #[va, vs] w (Ret w (.tuple #[.agg #[.int .i64 (moX l s), .int .i64 (moY l s)], .bool (moB l s)])) := by
  have hz0 := ZG.start w 26
  have HSI := Lib.hid (fun w1 (h : IG w1 va l) => sdSignal_any va l w1 h)
  have HCO := Lib.hid (fun w1 (h : IS w1 vs s) => sdCode_any vs s w1 h hls)
  have HVA := Lib.hid (hva.below hz0.below)
  have HVS := Lib.hid (hvs.below hz0.below)
  obtain ⟨pa, ca, rfl⟩ := hva.slice
  obtain ⟨ps, cs, rfl⟩ := hvs.slice
  have HZ0 := Lib.hid hz0
  have hmo : moB l s = (hdOk l && cdOk s && decide (l.length = s.length) && good (mtX l s 0) (mtY l s 0)) := rfl
  have hfin : moB l s = false → moX l s = 0 ∧ moY l s = 0 := fun h => by unfold moX moY; rw [h]; exact ⟨rfl, rfl⟩
  cases hd : hdOk l with
  | false =>
    have hb := show moB l s = false by rw [hmo, hd]; rfl
    rw [hb, (hfin hb).1, (hfin hb).2]
    rw [hd] at HSI
    clear hmo hfin hb hd hz0 hva hvs
    go_enter Try.func10, Try.ntmps10
    go_wp2_with fail
    refine (HSI.out _ HVA.out).mono ?_
    rintro e w1 ⟨rfl, hb⟩
    have hz1 := HZ0.out.step hb
    have HR := Lib.hid hz1
    obtain ⟨z1, z2, z3, z4, z5, z6⟩ := hz1
    clear hb
    go_wp2_with fail
    (try simp only [Exit.inBlock, Exit.then])
    obtain ⟨d0, d2, d3⟩ := HR.out.ret (.int .i64 0) (.int .i64 0)
    refine bodyPost_ret (by simp [results, Try.results10, go_sem, d0, d2]; try rfl) rfl ?_
    exact ⟨rfl, d3⟩
  | true =>
  rw [hd] at HSI
  cases hc : cdOk s with
  | false =>
    have hb := show moB l s = false by rw [hmo, hc, Bool.and_false]; rfl
    rw [hb, (hfin hb).1, (hfin hb).2]
    rw [hc] at HCO
    clear hmo hfin hb hd hc hz0 hva hvs
    go_enter Try.func10, Try.ntmps10
    go_wp2_with fail
    refine (HSI.out _ HVA.out).mono ?_
    rintro e w1 ⟨rfl, hb⟩
    have HZ1 := Lib.hid (HZ0.out.step hb)
    have HVS1 := Lib.hid (HVS.out.below hb)
    clear hb
    go_wp2_with fail
    refine (HCO.out _ HVS1.out).mono ?_
    rintro e w2 ⟨rfl, hb⟩
    have hz1 := HZ1.out.step hb
    have HR := Lib.hid hz1
    obtain ⟨z1, z2, z3, z4, z5, z6⟩ := hz1
    clear hb
    go_wp2_with fail
    (try simp only [Exit.inBlock, Exit.then])
    obtain ⟨d0, d2, d3⟩ := HR.out.ret (.int .i64 0) (.int .i64 0)
    refine bodyPost_ret (by simp [results, Try.results10, go_sem, d0, d2]; try rfl) rfl ?_
    exact ⟨rfl, d3⟩
  | true =>
  rw [hc] at HCO
  by_cases hln : l.length = s.length
  case neg =>
    have hb := show moB l s = false by rw [hmo, decide_eq_false hln, Bool.and_false]; rfl
    rw [hb, (hfin hb).1, (hfin hb).2]
    have hne : ¬ (l.length : Int) = (s.length : Int) := by omega
    have hne2 : ((l.length : Int) != (s.length : Int)) = true := by simpa using hne
    clear hmo hfin hb hd hc hz0 hva hvs hln
    go_enter Try.func10, Try.ntmps10
    go_wp2_with fail
    refine (HSI.out _ HVA.out).mono ?_
    rintro e w1 ⟨rfl, hb⟩
    have HZ1 := Lib.hid (HZ0.out.step hb)
    have HVS1 := Lib.hid (HVS.out.below hb)
    clear hb
    go_wp2_with fail
    refine (HCO.out _ HVS1.out).mono ?_
    rintro e w2 ⟨rfl, hb⟩
    have hz1 := HZ1.out.step hb
    have HR := Lib.hid hz1
    obtain ⟨z1, z2, z3, z4, z5, z6⟩ := hz1
    clear hb
    go_wp2_with fail
    (try simp only [Exit.inBlock, Exit.then])
    obtain ⟨d0, d2, d3⟩ := HR.out.ret (.int .i64 0) (.int .i64 0)
    refine bodyPost_ret (by simp [results, Try.results10, go_sem, d0, d2]; try rfl) rfl ?_
    exact ⟨rfl, d3⟩
  have HMA := Lib.hid (fun (w1 : World) (h1 : IG w1 (.slice pa l.length ca) l) (h2 : IS w1 (.slice ps s.length cs) s) => show Calls Try.prog 38 #[.slice pa l.length ca, .slice ps s.length cs, .int .i64 0] w1 (Ret w1 (.agg #[.int .i64 (mtX l s 0), .int .i64 (mtY l s 0)])) from sdMatch_any _ _ l s 0 w1 h1 h2 (hdOk_good hd) (cdOk_seq hc).1 (by omega) hl)
  have HIF := Lib.hid (svalid (mtX l s 0) (mtY l s 0))
  have hb : moB l s = good (mtX l s 0) (mtY l s 0) := by rw [hmo, hd, hc, decide_eq_true hln]; rfl
  have hx : moX l s = gx (mtX l s 0) (mtY l s 0) := by unfold moX gx; rw [hb]
  have hy : moY l s = gy (mtX l s 0) (mtY l s 0) := by unfold moY gy; rw [hb]
  rw [hb, hx, hy]
  obtain ⟨X, hX⟩ : ∃ X, X = mtX l s 0 := ⟨_, rfl⟩
  obtain ⟨Y, hY⟩ : ∃ X, X = mtY l s 0 := ⟨_, rfl⟩
  rw [← hX, ← hY] at HMA HIF ⊢
  obtain ⟨P, hP⟩ : ∃ P, P = gx X Y := ⟨_, rfl⟩
  obtain ⟨Q, hQ⟩ : ∃ P, P = gy X Y := ⟨_, rfl⟩
  obtain ⟨B, hB⟩ : ∃ P, P = good X Y := ⟨_, rfl⟩
  rw [← hP, ← hQ, ← hB] at HIF ⊢
  obtain ⟨n, hn⟩ : ∃ n, n = s.length := ⟨_, rfl⟩
  have hln2 : l.length = n := by omega
  rw [← hn] at HMA HVS HCO ⊢
  rw [hln2] at HMA HVA HSI ⊢
  clear hmo hfin hb hd hc hz0 hva hvs hln hx hy hX hY hP hQ hB hn hln2
  go_enter Try.func10, Try.ntmps10
  go_wp2_with fail
  refine (HSI.out _ HVA.out).mono ?_
  rintro e w1 ⟨rfl, hb⟩
  have HZ1 := Lib.hid (HZ0.out.step hb)
  have HVS1 := Lib.hid (HVS.out.below hb)
  have HVA1 := Lib.hid (HVA.out.below hb)
  clear hb
  go_wp2_with fail
  refine (HCO.out _ HVS1.out).mono ?_
  rintro e w2 ⟨rfl, hb⟩
  have HZ2 := Lib.hid (HZ1.out.step hb)
  have HVS2 := Lib.hid (HVS1.out.below hb)
  have HVA2 := Lib.hid (HVA1.out.below hb)
  clear hb
  go_wp2_with fail
  refine (HMA.out _ HVA2.out HVS2.out).mono ?_
  rintro e w3 ⟨rfl, hb⟩
  have HZ3 := Lib.hid (HZ2.out.step hb)
  clear hb
  go_wp2_with fail
  refine (HIF.out _).mono ?_
  rintro e w4 ⟨rfl, hb⟩
  have hz1 := HZ3.out.step hb
  have HR := Lib.hid hz1
  obtain ⟨z1, z2, z3, z4, z5, z6⟩ := hz1
  clear hb
  go_wp2_with fail
  (try simp only [Exit.inBlock, Exit.then])
  obtain ⟨d0, d2, d3⟩ := HR.out.ret (.int .i64 P) (.int .i64 Q)
  refine bodyPost_ret (by simp [results, Try.results10, go_sem, d0, d2]; try rfl) rfl ?_
  exact ⟨rfl, d3⟩
end Go.Proofs.Ytapmehgdnofgnab
