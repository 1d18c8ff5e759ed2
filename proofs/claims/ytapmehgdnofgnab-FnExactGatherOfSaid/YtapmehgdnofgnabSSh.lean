/- The model's tfShare: a list divided. -/
import Derived.Test.YtapmehgdnofgnabTrsM
import Derived.Test.YtapmehgdnofgnabSTf
import Derived.Test.YtapmehgdnofgnabApps
namespace Go.Proofs.Ytapmehgdnofgnab
set_option maxRecDepth 100000
open Go.RowKit

theorem quo_le (x : Int) (n : Nat) (hx : -40000000 ≤ x ∧ x ≤ 40000000) : -40000000 ≤ x.tdiv (n : Int) ∧ x.tdiv (n : Int) ≤ 40000000 := by
  have h := Int.natAbs_tdiv_le_natAbs x (n : Int)
  omega
set_option maxRecDepth 100000 in
set_option maxHeartbeats 4000000 in
theorem tfShare_any (v : Value) (L : List (Int × Int)) (n : Nat) (hn1 : 1 ≤ n) (hn32 : n ≤ 32) (w : World) (hv : IG w v L) (hl : L.length ≤ 32) (hle : ∀ i, i < L.length → (-40000000 ≤ gre L i ∧ gre L i ≤ 40000000) ∧ (-40000000 ≤ gim L i ∧ gim L i ≤ 40000000)) :
    Calls Try.prog 49 #[v, .int .i64 n] w (MakesGB w (shA n L) (shOk n L)) := by
  obtain ⟨N, hN⟩ : ∃ N, N = L.length := ⟨_, rfl⟩
  have HTS := Lib.hid (fun k => shTo_succ n L k)
  have HNO := Lib.hid (fun k (hk : k < L.length) (h : dvP n (gre L k) (gim L k) = false) => show shOk n L = false ∧ shA n L = [] from by
    have h1 : shOk n L = false := by unfold shOk; rw [sh_no hk h]; rfl
    exact ⟨h1, by unfold shA; rw [h1]; rfl⟩)
  have HQL := Lib.hid (fun x hx => quo_le x n hx)
  have HIN := Lib.hid (And.intro hv hle)
  obtain ⟨a, cap, rfl⟩ := hv.slice
  obtain ⟨X, hX⟩ : ∃ X : Nat → Int, X = fun i => (gre L i).tdiv n := ⟨_, rfl⟩
  obtain ⟨Y, hY⟩ : ∃ X : Nat → Int, X = fun i => (gim L i).tdiv n := ⟨_, rfl⟩
  have HXY := Lib.hid (fun i => And.intro (show X i = (gre L i).tdiv n by rw [hX]) (show Y i = (gim L i).tdiv n by rw [hY]))
  have HEND := Lib.hid (show shTo n L L.length = true → shOk n L = goodL (genG N X Y) ∧ shA n L = (if goodL (genG N X Y) then genG N X Y else []) from fun h => by
    have e : shL n L = genG N X Y := by unfold shL; rw [hN, hX, hY]
    have h1 : shOk n L = goodL (genG N X Y) := by unfold shOk; rw [h, e]; rfl
    exact ⟨h1, by unfold shA; rw [h1, e]⟩)
  have HNN := Lib.hid hN
  rw [← hN] at HNO HEND hl ⊢
  obtain ⟨R, hR⟩ : ∃ R, R = shA n L := ⟨_, rfl⟩
  obtain ⟨q, hq⟩ : ∃ R, R = shOk n L := ⟨_, rfl⟩
  rw [← hR, ← hq] at HNO HEND ⊢
  have HN0 := Lib.hid (show ¬ n = 0 by omega)
  clear hv hle hX hY hN hR hq
  go_enter Try.func49, Try.ntmps49
  go_wp2_with fail
  go_loopw [11, 6] (fun i o wr => ∃ k : Nat, k ≤ N ∧ i = .int .i64 k ∧ shTo n L k = true ∧ OwnG wr w.heap.size o (genG k X Y) ∧ Below w.heap.size w wr) (fun i _ _ => N - (intOf i).toNat)
  case atStart => exact ⟨0, Nat.zero_le _, rfl, rfl, OwnG.nil _ _, Below.refl _ _⟩
  case round =>
    obtain ⟨k, hk, rfl, hto, hown, hbel⟩ := hrel
    have HT := Lib.hid hto
    have HO := Lib.hid hown
    have HB := Lib.hid hbel
    clear hto hown hbel
    by_cases hlt : k < N
    · have h0 : (0 : Int) ≤ (k : Int) := by omega
      have h1 : (k : Int) < (N : Int) := by omega
      have hlt2 : k < L.length := by rw [← HNN.out]; exact hlt
      obtain ⟨bb, off, rfl, hc1, hc2⟩ : ∃ bb off, a = some ⟨bb, off, none⟩ ∧ w.cell? ⟨bb, off + k * 2, none⟩ = some (.int .i64 (gre L k)) ∧ w.cell? ⟨bb, off + k * 2 + 1, none⟩ = some (.int .i64 (gim L k)) := by
        rcases HIN.out.1 with ⟨h0, _⟩ | ⟨_, bb, off, cap', hv, _, hc⟩
        · rw [h0] at hlt2; simp at hlt2
        · injection hv with e1 e2 e3
          exact ⟨bb, off, e1, hc k hlt2⟩
      have c1 := keepc HB.out hc1
      have c2 := keepc HB.out hc2
      have hle := HIN.out.2 k hlt2
      have hno := HNO.out k hlt
      have hts := HTS.out k
      rw [HT.out, Bool.true_and] at hts
      have hxy := HXY.out k
      have hgs := genG_succ k X Y
      rw [hxy.1, hxy.2] at hgs
      obtain ⟨x, hx⟩ : ∃ x, x = gre L k := ⟨_, rfl⟩
      obtain ⟨y, hy⟩ : ∃ y, y = gim L k := ⟨_, rfl⟩
      rw [← hx] at c1 hle hno hts hgs
      rw [← hy] at c2 hle hno hts hgs
      have q1 := HQL.out x hle.1
      have q2 := HQL.out y hle.2
      obtain ⟨A, hA⟩ : ∃ A, A = x.tdiv (n : Int) := ⟨_, rfl⟩
      obtain ⟨B, hB⟩ : ∃ A, A = y.tdiv (n : Int) := ⟨_, rfl⟩
      rw [← hA] at hgs q1
      rw [← hB] at hgs q2
      have HQ1 := Lib.hid (show IntKind.i64.wrap (x.tdiv (n : Int)) = A by rw [← hA]; exact IntWalk.i64_in _ (by omega))
      have HQ2 := Lib.hid (show IntKind.i64.wrap (y.tdiv (n : Int)) = B by rw [← hB]; exact IntWalk.i64_in _ (by omega))
      have HGS := Lib.hid hgs
      have HTS1 := Lib.hid hts
      have HNO1 := Lib.hid hno
      have hn0 : ¬ n = 0 := HN0.out
      obtain ⟨M1, hM1⟩ : ∃ M, x.tmod (n : Int) = M := ⟨_, rfl⟩
      obtain ⟨M2, hM2⟩ : ∃ M, y.tmod (n : Int) = M := ⟨_, rfl⟩
      have HD := Lib.hid (show dvP n x y = (decide (M1 = 0) && decide (M2 = 0)) by unfold dvP; rw [hM1, hM2])
      have HGL := Lib.hid (show (genG k X Y).length ≤ 1048576 by rw [genG_length]; omega)
      clear hx hy hA hB q1 q2 hgs hts hno hle hc1 hc2 hlt2 hxy
      by_cases z1 : M1 = 0
      · by_cases z2 : M2 = 0
        · have HT1 := Lib.hid (show shTo n L (k + 1) = true by rw [HTS1.out, HD.out, z1, z2]; rfl)
          subst z1 z2
          go_wp2_with fail
          obtain ⟨w5, hw5⟩ : ∃ w5, w5 = wr.alloc (.cells #[.int .i64 x, .int .i64 y] 26) := ⟨_, rfl⟩
          rw [← hw5]
          have HC1 := Lib.hid (show w5.cell? ⟨wr.heap.size, 0, none⟩ = some (.int .i64 x) by rw [hw5]; exact cell_new0 _ _ _ _)
          have HC2 := Lib.hid (show w5.cell? ⟨wr.heap.size, 1, none⟩ = some (.int .i64 y) by rw [hw5]; exact cell_new1 _ _ _ _)
          have HB5 := Lib.hid (show Below w.heap.size w w5 by rw [hw5]; exact belowa HB.out _)
          have HO5 := Lib.hid (show OwnG w5 w.heap.size u6 (genG k X Y) by rw [hw5]; exact HO.out.alloc _)
          have HNE := Lib.hid (show u6.ownBlock ≠ some wr.heap.size from fun e => by have := (HO.out.lt _ e).2; omega)
          clear hw5 c1 c2 hn0
          refine wp_region_held_drew (S := (fun w' => World.grownBy w5 w' u6.ownBlock)) (by kernel_rfl) (grownDrew (World.grownBy.refl _ _)) ?_
          obtain ⟨d1, hdw⟩ : ∃ w', w' = w5.drew := ⟨_, rfl⟩
          rw [← hdw]
          have hb : Below w5.heap.size w5 d1 := by rw [hdw]; exact belowN (Below.refl _ _) 1
          have F1_O := Lib.hid (HO5.out.below hb)
          have F1_B := Lib.hid (joins HB5.out hb)
          clear hdw hb
          intro hHeld
          refine' wpAnyH_take (i := 0) (v := _) rfl (by kernel_rfl) (by kernel_rfl) (by kernel_rfl) (fun _ _ _ h => h) (Or.inl ⟨by rfl, ?hy1⟩) (by assumption) ?rest1
          case hy1 =>
            intro w h
            (try clear h)
            go_simp
            (try with_reducible rfl)
          (try simp only [Act.put, List.getElem_toArray, List.getElem_cons_zero, List.setIfInBounds_toArray, List.set_cons_zero, List.set_cons_succ])
          refine' wpAnyH_take (i := 1) (v := _) rfl (by kernel_rfl) (by kernel_rfl) (by kernel_rfl) (fun _ _ _ h => h) (Or.inl ⟨by rfl, ?hy2⟩) (by assumption) ?rest2
          case hy2 =>
            intro w h
            (try clear h)
            go_simp
            (try with_reducible rfl)
          (try simp only [Act.put, List.getElem_toArray, List.getElem_cons_zero, List.getElem_cons_succ, List.setIfInBounds_toArray, List.set_cons_zero, List.set_cons_succ])
          refine' wpAnyH_take (i := 2) (v := _) rfl (by kernel_rfl) (by kernel_rfl) (by kernel_rfl) (fun _ _ _ h => h) (Or.inl ⟨by rfl, ?hy3⟩) (by assumption) ?rest3
          case hy3 =>
            intro w h
            have c1 := cellR h HC1.out HNE.out
            (try clear h)
            go_simp
            (try with_reducible rfl)
          (try simp only [Act.put, List.getElem_toArray, List.getElem_cons_zero, List.getElem_cons_succ, List.setIfInBounds_toArray, List.set_cons_zero, List.set_cons_succ])
          refine' wpAnyH_take (i := 3) (v := _) rfl (by kernel_rfl) (by kernel_rfl) (by kernel_rfl) (fun _ _ _ h => h) (Or.inl ⟨by rfl, ?hy4⟩) (by assumption) ?rest4
          case hy4 =>
            intro w h
            (try clear h)
            go_simp
            (try with_reducible rfl)
          (try simp only [Act.put, List.getElem_toArray, List.getElem_cons_zero, List.getElem_cons_succ, List.setIfInBounds_toArray, List.set_cons_zero, List.set_cons_succ])
          refine' wpAnyH_take (i := 4) (v := _) rfl (by kernel_rfl) (by kernel_rfl) (by kernel_rfl) (fun _ _ _ h => h) (Or.inl ⟨by rfl, ?hy5⟩) (by assumption) ?rest5
          case hy5 =>
            intro w h
            have q1 := HQ1.out
            have q0 := HN0.out
            (try clear h)
            go_simp
            (try with_reducible rfl)
          (try simp only [Act.put, List.getElem_toArray, List.getElem_cons_zero, List.getElem_cons_succ, List.setIfInBounds_toArray, List.set_cons_zero, List.set_cons_succ])
          refine' wpAnyH_take (i := 5) (v := _) rfl (by kernel_rfl) (by kernel_rfl) (by kernel_rfl) (fun _ _ _ h => h) (Or.inl ⟨by rfl, ?hy6⟩) (by assumption) ?rest6
          case hy6 =>
            intro w h
            (try clear h)
            go_simp
            (try with_reducible rfl)
          (try simp only [Act.put, List.getElem_toArray, List.getElem_cons_zero, List.getElem_cons_succ, List.setIfInBounds_toArray, List.set_cons_zero, List.set_cons_succ])
          refine' wpAnyH_take (i := 6) (v := _) rfl (by kernel_rfl) (by kernel_rfl) (by kernel_rfl) (fun _ _ _ h => h) (Or.inl ⟨by rfl, ?hy7⟩) (by assumption) ?rest7
          case hy7 =>
            intro w h
            have c2 := cellR h HC2.out HNE.out
            (try clear h)
            go_simp
            (try with_reducible rfl)
          (try simp only [Act.put, List.getElem_toArray, List.getElem_cons_zero, List.getElem_cons_succ, List.setIfInBounds_toArray, List.set_cons_zero, List.set_cons_succ])
          refine' wpAnyH_take (i := 7) (v := _) rfl (by kernel_rfl) (by kernel_rfl) (by kernel_rfl) (fun _ _ _ h => h) (Or.inl ⟨by rfl, ?hy8⟩) (by assumption) ?rest8
          case hy8 =>
            intro w h
            (try clear h)
            go_simp
            (try with_reducible rfl)
          (try simp only [Act.put, List.getElem_toArray, List.getElem_cons_zero, List.getElem_cons_succ, List.setIfInBounds_toArray, List.set_cons_zero, List.set_cons_succ])
          refine' wpAnyH_take (i := 8) (v := _) rfl (by kernel_rfl) (by kernel_rfl) (by kernel_rfl) (fun _ _ _ h => h) (Or.inl ⟨by rfl, ?hy9⟩) (by assumption) ?rest9
          case hy9 =>
            intro w h
            have q1 := HQ2.out
            have q0 := HN0.out
            (try clear h)
            go_simp
            (try with_reducible rfl)
          (try simp only [Act.put, List.getElem_toArray, List.getElem_cons_zero, List.getElem_cons_succ, List.setIfInBounds_toArray, List.set_cons_zero, List.set_cons_succ])
          refine' wpAnyH_take (i := 9) (v := _) rfl (by kernel_rfl) (by kernel_rfl) (by kernel_rfl) (fun _ _ _ h => h) (Or.inl ⟨by rfl, ?hy10⟩) (by assumption) ?rest10
          case hy10 =>
            intro w h
            (try clear h)
            go_simp
            (try with_reducible rfl)
          (try simp only [Act.put, List.getElem_toArray, List.getElem_cons_zero, List.getElem_cons_succ, List.setIfInBounds_toArray, List.set_cons_zero, List.set_cons_succ])
          refine wpAnyH_ready (rs := [10]) (by kernel_rfl) (by simp) ?_
          refine AllReadyH.cons rfl (fun K hK => ?_) AllReadyH.nil
          go_simp
          refine hK.out _ _ (grownA hHeld _) (fun hHeld => ?_)
          clear hK K
          (try simp only [Act.put, List.getElem_toArray, List.getElem_cons_zero, List.getElem_cons_succ, List.setIfInBounds_toArray, List.set_cons_zero, List.set_cons_succ])
          refine wpAnyH_ready (rs := [11]) (by kernel_rfl) (by simp) ?_
          refine AllReadyH.cons rfl (fun K hK => ?_) AllReadyH.nil
          refine step_pushG rfl (.tmp 27) (.tmp 37) rfl w.heap.size _ (genG k X Y) rfl (F1_O.out.alloc _) d1.heap.size 1 _ _ rfl (cell_new0 _ _ _ _) (cell_new1 _ _ _ _) HGL.out w.heap.size w (F1_B.out.alloc F1_B.out.size _) (Nat.le_refl _) (by have := F1_B.out.size; simp; omega) (by have := F1_B.out.size; simp; omega) ?_
          intro v2 w2 ho2 hb2 hg2
          have HO2_ := Lib.hid ho2
          have HB2_ := Lib.hid hb2
          refine hK.out _ _ (grown_trans hHeld hg2) (fun hHeld => ?_)
          clear ho2 hb2 hg2
          clear hK K
          (try simp only [Act.put, List.getElem_toArray, List.getElem_cons_zero, List.getElem_cons_succ, List.setIfInBounds_toArray, List.set_cons_zero, List.set_cons_succ])
          refine' wpAnyH_take (i := 12) (v := _) rfl (by kernel_rfl) (by kernel_rfl) (by kernel_rfl) (fun _ _ _ h => h) (Or.inl ⟨by rfl, ?hy11⟩) (by assumption) ?rest11
          case hy11 =>
            intro w h
            (try clear h)
            go_simp
            (try with_reducible rfl)
          (try simp only [Act.put, List.getElem_toArray, List.getElem_cons_zero, List.getElem_cons_succ, List.setIfInBounds_toArray, List.set_cons_zero, List.set_cons_succ])
          refine wpAnyH_done (by kernel_rfl) ?_ _
          go_wp2_with fail
          go_roundw
          case rel => exact ⟨k + 1, by omega, by go_num, HT1.out, by rw [HGS.out]; exact HO2_.out, HB2_.out⟩
          case measure => simp [intOf]; omega
        · have hNO := Lib.hid (HNO1.out (by rw [HD.out, decide_eq_false z2, Bool.and_false]))
          subst z1
          go_wp2_with fail
          go_returns
          exact ⟨_, by rw [hNO.out.1]; rfl, by rw [hNO.out.2]; exact OwnG.nil _ _, belowa HB.out _⟩
      · have hNO := Lib.hid (HNO1.out (by rw [HD.out, decide_eq_false z1, Bool.false_and]))
        go_wp2_with fail
        go_returns
        exact ⟨_, by rw [hNO.out.1]; rfl, by rw [hNO.out.2]; exact OwnG.nil _ _, belowa HB.out _⟩
    · obtain rfl : k = N := by omega
      have he := HEND.out (by exact HNN.out ▸ HT.out)
      obtain ⟨M, hM⟩ : ∃ M, M = genG k X Y := ⟨_, rfl⟩
      rw [← hM] at he HO
      have HV := Lib.hid (tfWhole_any u6 M wr HO.out.is)
      obtain ⟨g, hg⟩ : ∃ b, b = goodL M := ⟨_, rfl⟩
      rw [← hg] at he HV
      have HE := Lib.hid he
      clear he hM hg
      go_wp2_with fail
      refine (HV.out).mono ?_
      rintro e w2 ⟨rfl, hb⟩
      have HB2 := Lib.hid (joins HB.out hb)
      have HO2 := Lib.hid (HO.out.below hb)
      clear hb
      cases g with
      | true =>
        rw [if_pos rfl]
        go_wp2_with fail
        go_returns
        refine ⟨u6, by rw [HE.out.1]; rfl, ?_, HB2.out⟩
        rw [HE.out.2]
        simpa using HO2.out
      | false =>
        rw [if_neg Bool.false_ne_true]
        go_wp2_with fail
        go_returns
        refine ⟨_, by rw [HE.out.1]; rfl, ?_, HB2.out⟩
        rw [HE.out.2]
        simpa using OwnG.nil _ _
end Go.Proofs.Ytapmehgdnofgnab
