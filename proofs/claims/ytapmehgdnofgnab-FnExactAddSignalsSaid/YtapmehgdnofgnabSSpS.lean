/- The model's AddSignals. -/
import Derived.Test.YtapmehgdnofgnabSSpH
import Derived.Test.YtapmehgdnofgnabSCvH
import Derived.Test.YtapmehgdnofgnabApG
namespace Go.Proofs.Ytapmehgdnofgnab
set_option maxRecDepth 100000
open Go.RowKit

theorem IG.cells2 {w : World} {a : Option Addr} {n cap : Nat} {l : List (Int × Int)} (h : IG w (.slice a n cap) l) (i : Nat) (hi : i < l.length) :
    ∃ b off, a = some ⟨b, off, none⟩ ∧ w.cell? ⟨b, off + i * 2, none⟩ = some (.int .i64 (gre l i)) ∧ w.cell? ⟨b, off + i * 2 + 1, none⟩ = some (.int .i64 (gim l i)) := by
  rcases h with ⟨h0, _⟩ | ⟨_, bb, off, cap', hv, _, hc⟩
  · rw [h0] at hi; simp at hi
  · injection hv with e1 e2 e3
    exact ⟨bb, off, e1, hc i hi⟩
set_option maxRecDepth 100000 in
set_option maxHeartbeats 4000000 in
theorem sAddSignals (va vb : Value) (a b : List (Int × Int)) (w : World) (hva : IG w va a) (hvb : IG w vb b) :
    Calls Try.prog 29 #[va, vb] w (MakesGB w (asF a b) (asB a b)) := by
  have HSA := Lib.hid (sdSignal_any va a w hva)
  have HSB := Lib.hid (fun w1 (h : IG w1 vb b) => sdSignal_any vb b w1 h)
  have HVA := Lib.hid hva
  have HVB := Lib.hid hvb
  obtain ⟨pa, ca, rfl⟩ := hva.slice
  obtain ⟨pb, cb, rfl⟩ := hvb.slice
  have hdef : asB a b = (hdOk a && hdOk b && decide (a.length = b.length) && goodL (asL a b)) := rfl
  have hfin : asB a b = false → asF a b = [] := fun h => by unfold asF; rw [h]; rfl
  cases h1 : hdOk a with
  | false =>
    have hb := show asB a b = false by rw [hdef, h1]; rfl
    rw [hb, hfin hb]
    rw [h1] at HSA
    clear hdef hfin hb h1 hva hvb
    go_enter Try.func29, Try.ntmps29
    go_wp2_with fail
    refine (HSA.out).mono ?_
    rintro e w1 ⟨rfl, hb⟩
    go_wp2_with fail
    go_returns
    exact ⟨_, rfl, OwnG.nil _ _, hb⟩
  | true =>
  rw [h1] at HSA
  cases h2 : hdOk b with
  | false =>
    have hb := show asB a b = false by rw [hdef, h2, Bool.and_false]; rfl
    rw [hb, hfin hb]
    rw [h2] at HSB
    clear hdef hfin hb h1 h2 hva hvb
    go_enter Try.func29, Try.ntmps29
    go_wp2_with fail
    refine (HSA.out).mono ?_
    rintro e w1 ⟨rfl, hb1⟩
    go_wp2_with fail
    refine (HSB.out _ (HVB.out.below hb1)).mono ?_
    rintro e w2 ⟨rfl, hb2⟩
    have hb3 := joins hb1 hb2
    go_wp2_with fail
    go_returns
    exact ⟨_, rfl, OwnG.nil _ _, hb3⟩
  | true =>
  rw [h2] at HSB
  by_cases hln : a.length = b.length
  case neg =>
    have hb := show asB a b = false by rw [hdef, decide_eq_false hln, Bool.and_false]; rfl
    rw [hb, hfin hb]
    have hne : ¬ (a.length : Int) = (b.length : Int) := by omega
    have hne2 : ((a.length : Int) != (b.length : Int)) = true := by simpa using hne
    clear hdef hfin hb h1 h2 hva hvb hln
    go_enter Try.func29, Try.ntmps29
    go_wp2_with fail
    refine (HSA.out).mono ?_
    rintro e w1 ⟨rfl, hb1⟩
    go_wp2_with fail
    refine (HSB.out _ (HVB.out.below hb1)).mono ?_
    rintro e w2 ⟨rfl, hb2⟩
    have hb3 := joins hb1 hb2
    go_wp2_with fail
    go_returns
    exact ⟨_, rfl, OwnG.nil _ _, hb3⟩
  have h64 := hdOk_len h1
  have HGA := Lib.hid (fun i (hi : i < a.length) => good_in (goodL_at (hdOk_good h1) i hi))
  have HGB := Lib.hid (fun i (hi : i < a.length) => good_in (goodL_at (hdOk_good h2) i (by omega)))
  obtain ⟨X, hX⟩ : ∃ X, X = asX a b := ⟨_, rfl⟩
  obtain ⟨Y, hY⟩ : ∃ X, X = asY a b := ⟨_, rfl⟩
  have HXY := Lib.hid (fun i => And.intro (show X i = gre a i + gre b i by rw [hX]; rfl) (show Y i = gim a i + gim b i by rw [hY]; rfl))
  have HEND := Lib.hid (show asB a b = goodL (genG a.length X Y) ∧ asF a b = (if goodL (genG a.length X Y) then genG a.length X Y else []) from by
    have e : asL a b = genG a.length X Y := by unfold asL; rw [hX, hY]
    have e2 : asB a b = goodL (genG a.length X Y) := by rw [hdef, h1, h2, decide_eq_true hln, e]; rfl
    exact ⟨e2, by unfold asF; rw [e2, e]⟩)
  obtain ⟨R, hR⟩ : ∃ R, R = asF a b := ⟨_, rfl⟩
  obtain ⟨q, hq⟩ : ∃ R, R = asB a b := ⟨_, rfl⟩
  rw [← hR, ← hq] at HEND ⊢
  obtain ⟨N, hN⟩ : ∃ n, n = a.length := ⟨_, rfl⟩
  have HNA := Lib.hid hN
  have HNB := Lib.hid (show N = b.length by omega)
  rw [← hN] at HSA HVA HGA HGB HEND h64 ⊢
  rw [show b.length = N by omega] at HSB HVB ⊢
  clear hdef hfin h1 h2 hva hvb hln hX hY hR hq hN
  go_enter Try.func29, Try.ntmps29
  go_wp2_with fail
  refine (HSA.out).mono ?_
  rintro e w1 ⟨rfl, hb1⟩
  have HVB1 := Lib.hid (HVB.out.below hb1)
  have HB1 := Lib.hid hb1
  clear hb1
  go_wp2_with fail
  refine (HSB.out _ HVB1.out).mono ?_
  rintro e w2 ⟨rfl, hb2⟩
  have HB2 := Lib.hid (joins HB1.out hb2)
  clear hb2
  go_wp2_with fail
  go_loopw [26, 6] (fun i o wr => ∃ k : Nat, k ≤ N ∧ i = .int .i64 k ∧ OwnG wr w.heap.size o (genG k X Y) ∧ Below w.heap.size w wr) (fun i _ _ => N - (intOf i).toNat)
  case atStart => exact ⟨0, Nat.zero_le _, rfl, OwnG.nil _ _, HB2.out⟩
  case round =>
    obtain ⟨k, hk, rfl, hown, hbel⟩ := hrel
    have HO := Lib.hid hown
    have HB := Lib.hid hbel
    clear hown hbel
    by_cases hlt : k < N
    · have h0 : (0 : Int) ≤ (k : Int) := by omega
      have h1 : (k : Int) < (N : Int) := by omega
      have HI0 := Lib.hid h0
      have HI1 := Lib.hid h1
      obtain ⟨ba, oa, rfl, hc1, hc2⟩ := HVA.out.cells2 k (by rw [← HNA.out]; exact hlt)
      obtain ⟨bb, ob, rfl, hd1, hd2⟩ := HVB.out.cells2 k (by rw [← HNB.out]; exact hlt)
      have c1 := keepc HB.out hc1
      have c2 := keepc HB.out hc2
      have hga := HGA.out k hlt
      have hgb := HGB.out k hlt
      have hxy := HXY.out k
      have hgs := genG_succ k X Y
      have HND := Lib.hid (show u6.ownBlock ≠ some bb from fun e => by
        have h3 := (HO.out.lt _ e).1
        have h4 := World.block_lt_of_cell? w _ hd1
        simp at h4
        omega)
      obtain ⟨x, hx⟩ : ∃ x, x = gre a k := ⟨_, rfl⟩
      obtain ⟨y, hy⟩ : ∃ x, x = gim a k := ⟨_, rfl⟩
      obtain ⟨u, hu⟩ : ∃ x, x = gre b k := ⟨_, rfl⟩
      obtain ⟨v, hv⟩ : ∃ x, x = gim b k := ⟨_, rfl⟩
      rw [← hx] at c1 hga hxy
      rw [← hy] at c2 hga hxy
      rw [← hu] at hd1 hgb hxy
      rw [← hv] at hd2 hgb hxy
      have HPL := Lib.hid (phPlusB_any x y u v (by omega) (by omega) (by omega) (by omega))
      rw [← hxy.1, ← hxy.2] at HPL
      have HGS := Lib.hid hgs
      have HGL := Lib.hid (show (genG k X Y).length ≤ 1048576 by rw [genG_length]; omega)
      have HD1_ := Lib.hid (keepc HB.out hd1)
      have HD2_ := Lib.hid (keepc HB.out hd2)
      obtain ⟨P, hP⟩ : ∃ P, P = X k := ⟨_, rfl⟩
      obtain ⟨Q, hQ⟩ : ∃ P, P = Y k := ⟨_, rfl⟩
      rw [← hP, ← hQ] at HPL HGS
      clear hx hy hu hv hga hgb hxy hgs hc1 hc2 hd1 hd2 hP hQ
      go_wp2_with fail
      obtain ⟨w5, hw5⟩ : ∃ w5, w5 = wr.alloc (.cells #[.int .i64 x, .int .i64 y] 26) := ⟨_, rfl⟩
      rw [← hw5]
      have HC1 := Lib.hid (show w5.cell? ⟨wr.heap.size, 0, none⟩ = some (.int .i64 x) by rw [hw5]; exact cell_new0 _ _ _ _)
      have HC2 := Lib.hid (show w5.cell? ⟨wr.heap.size, 1, none⟩ = some (.int .i64 y) by rw [hw5]; exact cell_new1 _ _ _ _)
      have HD1 := Lib.hid (show w5.cell? ⟨bb, ob + k * 2, none⟩ = some (.int .i64 u) by rw [hw5]; exact keepa _ HD1_.out)
      have HD2 := Lib.hid (show w5.cell? ⟨bb, ob + k * 2 + 1, none⟩ = some (.int .i64 v) by rw [hw5]; exact keepa _ HD2_.out)
      have HB5 := Lib.hid (show Below w.heap.size w w5 by rw [hw5]; exact belowa HB.out _)
      have HO5 := Lib.hid (show OwnG w5 w.heap.size u6 (genG k X Y) by rw [hw5]; exact HO.out.alloc _)
      have HNE := Lib.hid (show u6.ownBlock ≠ some wr.heap.size from fun e => by have := (HO.out.lt _ e).2; omega)
      clear hw5 c1 c2
      refine wp_region_held_drew (S := (fun w' => World.grownBy w5 w' u6.ownBlock)) (by kernel_rfl) (grownDrew (World.grownBy.refl _ _)) ?_
      obtain ⟨d1, hdw⟩ : ∃ w', w' = w5.drew := ⟨_, rfl⟩
      rw [← hdw]
      have hb : Below w5.heap.size w5 d1 := by rw [hdw]; exact belowN (Below.refl _ _) 1
      have F1_O := Lib.hid (HO5.out.below hb)
      have F1_B := Lib.hid (joins HB5.out hb)
      clear hdw hb
      intro hHeld
      refine' wpAnyH_take (i := 0) (v := _) rfl (by kernel_rfl) (by kernel_rfl) (by kernel_rfl) (fun _ _ _ h => h) (Or.inl ⟨by rfl, ?hy1⟩) (by assumption) ?rest1
      case hy1 =>
        intro w h
        (try clear h)
        go_simp
        (try with_reducible rfl)
      (try simp only [Act.put, List.getElem_toArray, List.getElem_cons_zero, List.setIfInBounds_toArray, List.set_cons_zero, List.set_cons_succ])
      refine' wpAnyH_take (i := 1) (v := _) rfl (by kernel_rfl) (by kernel_rfl) (by kernel_rfl) (fun _ _ _ h => h) (Or.inl ⟨by rfl, ?hy2⟩) (by assumption) ?rest2
      case hy2 =>
        intro w h
        have c1 := cellR h HC1.out HNE.out
        have c2 := cellR h HC2.out HNE.out
        (try clear h)
        go_simp
        (try with_reducible rfl)
      (try simp only [Act.put, List.getElem_toArray, List.getElem_cons_zero, List.getElem_cons_succ, List.setIfInBounds_toArray, List.set_cons_zero, List.set_cons_succ])
      refine' wpAnyH_take (i := 2) (v := _) rfl (by kernel_rfl) (by kernel_rfl) (by kernel_rfl) (fun _ _ _ h => h) (Or.inl ⟨by rfl, ?hy3⟩) (by assumption) ?rest3
      case hy3 =>
        intro w h
        (try clear h)
        go_simp
        (try with_reducible rfl)
      (try simp only [Act.put, List.getElem_toArray, List.getElem_cons_zero, List.getElem_cons_succ, List.setIfInBounds_toArray, List.set_cons_zero, List.set_cons_succ])
      refine' wpAnyH_take (i := 3) (v := _) rfl (by kernel_rfl) (by kernel_rfl) (by kernel_rfl) (fun _ _ _ h => h) (Or.inl ⟨by rfl, ?hy4⟩) (by assumption) ?rest4
      case hy4 =>
        intro w h
        (try clear h)
        go_simp
        (try with_reducible rfl)
      (try simp only [Act.put, List.getElem_toArray, List.getElem_cons_zero, List.getElem_cons_succ, List.setIfInBounds_toArray, List.set_cons_zero, List.set_cons_succ])
      refine' wpAnyH_take (i := 4) (v := _) rfl (by kernel_rfl) (by kernel_rfl) (by kernel_rfl) (fun _ _ _ h => h) (Or.inl ⟨by rfl, ?hy5⟩) (by assumption) ?rest5
      case hy5 =>
        intro w h
        have h0 := HI0.out
        have h1 := HI1.out
        (try clear h)
        go_simp
        (try with_reducible rfl)
      (try simp only [Act.put, List.getElem_toArray, List.getElem_cons_zero, List.getElem_cons_succ, List.setIfInBounds_toArray, List.set_cons_zero, List.set_cons_succ])
      refine' wpAnyH_take (i := 5) (v := _) rfl (by kernel_rfl) (by kernel_rfl) (by kernel_rfl) (fun _ _ _ h => h) (Or.inl ⟨by rfl, ?hy6⟩) (by assumption) ?rest6
      case hy6 =>
        intro w h
        have c1 := cellR h HD1.out HND.out
        have c2 := cellR h HD2.out HND.out
        (try clear h)
        go_simp
        (try with_reducible rfl)
      (try simp only [Act.put, List.getElem_toArray, List.getElem_cons_zero, List.getElem_cons_succ, List.setIfInBounds_toArray, List.set_cons_zero, List.set_cons_succ])
      refine wpAnyH_ready (rs := [6]) (by kernel_rfl) (by simp) ?_
      refine AllReadyH.cons rfl (fun K hK => ?_) AllReadyH.nil
      go_simp
      refine (HPL.out _).mono ?_
      rintro e d2 ⟨rfl, hb⟩
      have F2_O := Lib.hid (F1_O.out.below hb)
      have F2_B := Lib.hid (joins F1_B.out hb)
      have hHeld := grownB hHeld hb
      clear hb
      refine hK.out _ _ hHeld (fun hHeld => ?_)
      clear hK K
      (try simp only [Act.put, List.getElem_toArray, List.getElem_cons_zero, List.getElem_cons_succ, List.setIfInBounds_toArray, List.set_cons_zero, List.set_cons_succ])
      refine wpAnyH_ready (rs := [7]) (by kernel_rfl) (by simp) ?_
      refine AllReadyH.cons rfl (fun K hK => ?_) AllReadyH.nil
      go_simp
      refine hK.out _ _ (grownA hHeld _) (fun hHeld => ?_)
      clear hK K
      (try simp only [Act.put, List.getElem_toArray, List.getElem_cons_zero, List.getElem_cons_succ, List.setIfInBounds_toArray, List.set_cons_zero, List.set_cons_succ])
      refine wpAnyH_ready (rs := [8]) (by kernel_rfl) (by simp) ?_
      refine AllReadyH.cons rfl (fun K hK => ?_) AllReadyH.nil
      refine step_pushG rfl (.tmp 31) (.tmp 38) rfl w.heap.size _ (genG k X Y) rfl (F2_O.out.alloc _) d2.heap.size 1 _ _ rfl (cell_new0 _ _ _ _) (cell_new1 _ _ _ _) HGL.out w.heap.size w (F2_B.out.alloc F2_B.out.size _) (Nat.le_refl _) (by have := F2_B.out.size; simp; omega) (by have := F2_B.out.size; simp; omega) ?_
      intro v2 w2 ho2 hb2 hg2
      have HO2_ := Lib.hid ho2
      have HB2_ := Lib.hid hb2
      refine hK.out _ _ (grown_trans hHeld hg2) (fun hHeld => ?_)
      clear ho2 hb2 hg2
      clear hK K
      (try simp only [Act.put, List.getElem_toArray, List.getElem_cons_zero, List.getElem_cons_succ, List.setIfInBounds_toArray, List.set_cons_zero, List.set_cons_succ])
      refine' wpAnyH_take (i := 9) (v := _) rfl (by kernel_rfl) (by kernel_rfl) (by kernel_rfl) (fun _ _ _ h => h) (Or.inl ⟨by rfl, ?hy7⟩) (by assumption) ?rest7
      case hy7 =>
        intro w h
        (try clear h)
        go_simp
        (try with_reducible rfl)
      (try simp only [Act.put, List.getElem_toArray, List.getElem_cons_zero, List.getElem_cons_succ, List.setIfInBounds_toArray, List.set_cons_zero, List.set_cons_succ])
      refine wpAnyH_done (by kernel_rfl) ?_ _
      go_wp2_with fail
      go_roundw
      case rel => exact ⟨k + 1, by omega, by go_num, by rw [HGS.out]; exact HO2_.out, HB2_.out⟩
      case measure => simp [intOf]; omega
    · obtain rfl : k = N := by omega
      have he := HEND.out
      obtain ⟨M, hM⟩ : ∃ M, M = genG k X Y := ⟨_, rfl⟩
      rw [← hM] at he HO
      have HV := Lib.hid (tfWhole_any u6 M wr HO.out.is)
      obtain ⟨g, hg⟩ : ∃ b, b = goodL M := ⟨_, rfl⟩
      rw [← hg] at he HV
      have HE := Lib.hid he
      clear he hM hg
      go_wp2_with fail
      refine (HV.out).mono ?_
      rintro e w2 ⟨rfl, hb⟩
      have HB2 := Lib.hid (joins HB.out hb)
      have HO2 := Lib.hid (HO.out.below hb)
      clear hb
      cases g with
      | true =>
        rw [if_pos rfl]
        go_wp2_with fail
        go_returns
        refine ⟨u6, by rw [HE.out.1]; rfl, ?_, HB2.out⟩
        rw [HE.out.2]
        simpa using HO2.out
      | false =>
        rw [if_neg Bool.false_ne_true]
        go_wp2_with fail
        go_returns
        refine ⟨_, by rw [HE.out.1]; rfl, ?_, HB2.out⟩
        rw [HE.out.2]
        simpa using OwnG.nil _ _
end Go.Proofs.Ytapmehgdnofgnab
