/- The model's DualOf. -/
import Derived.Test.YtjoepdflbbcliacSQs
import Derived.Test.YtjoepdflbbcliacDuaM
namespace Go.Proofs.Ytjoepdflbbcliac
set_option maxRecDepth 100000
open Go.RowKit

theorem run_fieldG0 (a b : Int) (w : World) : (Instr.field 41 (.agg #[.int .i64 a, .int .i64 b]) 0).run Try.prog w = .ok (.int .i64 a) w := by kernel_rfl
theorem run_fieldG1 (a b : Int) (w : World) : (Instr.field 41 (.agg #[.int .i64 a, .int .i64 b]) 1).run Try.prog w = .ok (.int .i64 b) w := by kernel_rfl
theorem run_neqG (a b c d : Int) (w : World) : (binOp .neq 41 (.agg #[.int .i64 a, .int .i64 b]) (.agg #[.int .i64 c, .int .i64 d])).run Try.prog w = .ok (.bool (!(decide (c = a) && decide (d = b)))) w := by
  by_cases h : c = a <;> by_cases h2 : d = b
  · subst h h2; go_simp
  · subst h; have h3 : ¬ b = d := fun e => h2 e.symm; go_simp
  · subst h2; have h3 : ¬ a = c := fun e => h e.symm; go_simp
  · have h3 : ¬ b = d := fun e => h2 e.symm
    have h4 : ¬ a = c := fun e => h e.symm
    go_simp
attribute [local go_sem] run_fieldG0 run_fieldG1
attribute [local go_sem high] run_neqG
set_option maxHeartbeats 1000000 in
theorem tfRoot_any (n : Nat) (h : tfSz n = true) (w : World) : Calls Try.prog 63 #[.int .i64 n] w (Pure w (.int .i64 (rtN n))) := by
  rcases tfSz_cases h with rfl | rfl | rfl
  all_goals
    clear h
    go_enter Try.func63, Try.ntmps63
    go_wp2
    go_returns
    exact ⟨rfl, rfl⟩

set_option maxRecDepth 100000 in
set_option maxHeartbeats 4000000 in
theorem tfDual_any (v : Value) (s : List Int) (w : World) (hv : IS w v s) (h : sqTf s = true) : Calls Try.prog 41 #[v] w (MakesB w (if duB s then duL s else []) (duB s)) := by
  have HRT := Lib.hid (tfRoot_any s.length (Bool.and_eq_true_iff.1 h).2)
  have hr3 := rtN_in (Bool.and_eq_true_iff.1 h).2
  have HTV := Lib.hid (fun w' (hb : Below w.heap.size w w') => tfValues_any v s w' (hv.below hb) h)
  have HTO := Lib.hid (fun v' w' (hv' : IG w' v' (vlL s)) => tfOf_any v' (vlL s) 1 (Or.inl rfl) w' hv' (by rw [vlL_len]; have := sqTf_len h; omega) (vlL_le' s))
  have hdl : drL 1 (vlL s) = genG s.length (drX 1 (vlL s) s.length) (drY 1 (vlL s) s.length) := by unfold drL; rw [vlL_len]
  rw [hdl] at HTO
  have HTL := Lib.hid (fun p => tq_le h p)
  have HDP := Lib.hid (show ∀ p, duP s p = duK (rtN s.length) (drX 1 (vlL s) s.length p) (drY 1 (vlL s) s.length p) from fun p => rfl)
  have HTS := Lib.hid (fun k => duTo_succ s k)
  have HNO := Lib.hid (fun k hk hh => @du_no s k hk hh)
  have HDB := Lib.hid (show duB s = duTo s s.length from rfl)
  have HDL := Lib.hid (show duL s = gen s.length (fun p => (duP s p : Int)) from rfl)
  have hlen := sqTf_len h
  obtain ⟨pa, ca, rfl⟩ := hv.slice
  obtain ⟨V, hV⟩ : ∃ V, V = vlL s := ⟨_, rfl⟩
  rw [← hV] at HTV HTO
  obtain ⟨X, hX⟩ : ∃ X, X = drX 1 (vlL s) s.length := ⟨_, rfl⟩
  obtain ⟨Y, hY⟩ : ∃ X, X = drY 1 (vlL s) s.length := ⟨_, rfl⟩
  rw [hV] at HTO
  rw [← hX, ← hY, ← hV] at HTO
  rw [← hX, ← hY] at HTL HDP
  obtain ⟨P, hP⟩ : ∃ P : Nat → Nat, P = duP s := ⟨_, rfl⟩
  rw [← hP] at HDP HTS HNO HDL
  obtain ⟨T, hT⟩ : ∃ T : Nat → Int, T = fun p => (P p : Int) := ⟨_, rfl⟩
  rw [← hT] at HDL
  have HTP := Lib.hid (show ∀ p, T p = (P p : Int) from fun p => by rw [hT])
  obtain ⟨D, hD⟩ : ∃ D, D = duL s := ⟨_, rfl⟩
  rw [← hD] at HDL ⊢
  obtain ⟨q, hq⟩ : ∃ q, q = duB s := ⟨_, rfl⟩
  rw [← hq] at HNO HDB ⊢
  obtain ⟨n, hn⟩ : ∃ n, n = s.length := ⟨_, rfl⟩
  rw [← hn] at HTV HTO HRT HDP HNO HDB HDL hlen hr3 ⊢
  obtain ⟨r, hrr⟩ : ∃ r, r = rtN n := ⟨_, rfl⟩
  rw [← hrr] at HRT HDP hr3
  obtain ⟨L, hL⟩ : ∃ L, L = (if q then D else []) := ⟨_, rfl⟩
  rw [← hL]
  have HLL := Lib.hid hL
  obtain ⟨hl1, hl2⟩ := hlen
  have HR3 := Lib.hid hr3
  clear h hV hX hY hP hT hD hq hn hrr hr3 hL hdl hv
  go_enter Try.func41, Try.ntmps41
  go_wp2_with fail
  refine (HRT.out _).mono ?_
  rintro e w1 ⟨rfl, rfl⟩
  go_wp2_with fail
  refine (HTV.out _ (Below.refl _ _)).mono ?_
  rintro e w2 ⟨v2, rfl, ho2, hb2⟩
  have HB2 := Lib.hid hb2
  have HTO2 := Lib.hid (HTO.out v2 w2 ho2.is)
  clear ho2 hb2
  go_wp2_with fail
  refine (HTO2.out).mono ?_
  rintro e w3 ⟨v3, rfl, ho3, hb3⟩
  have HB3 := Lib.hid (joins HB2.out hb3)
  obtain ⟨g3, o3, k3, rfl, hc⟩ : ∃ g o k, v3 = .slice (some ⟨g, o, none⟩) n k ∧ ∀ i, i < n → w3.cell? ⟨g, o + i * 2, none⟩ = some (.int .i64 (X i)) ∧ w3.cell? ⟨g, o + i * 2 + 1, none⟩ = some (.int .i64 (Y i)) := by
    rcases ho3.is with ⟨h0, _⟩ | ⟨_, g, o, k, hv, _, hc⟩
    · have := congrArg List.length h0; rw [genG_length] at this; simp at this; omega
    · refine ⟨g, o, k, by rw [hv, genG_length], fun i hi => ?_⟩
      have := hc i (by rw [genG_length]; exact hi)
      rw [genG_re _ _ _ _ hi, genG_im _ _ _ _ hi] at this
      exact this
  have HC := Lib.hid hc
  clear ho3 hb3 hc
  go_wp2_with fail
  go_loopw [16, 5] (fun i o wr => ∃ k : Nat, k ≤ n ∧ i = .int .i64 k ∧ duTo s k = true ∧ Own wr w3.heap.size o (gen k T) ∧ Below w3.heap.size w3 wr) (fun i _ _ => n - (intOf i).toNat)
  case atStart => exact ⟨0, Nat.zero_le _, rfl, rfl, World.ownsRow_nil _ _ _ _, Below.refl _ _⟩
  case round =>
    obtain ⟨k, hk, rfl, hto, hown, hbel⟩ := hrel
    have HTK := Lib.hid hto
    have HOW := Lib.hid hown
    have HB := Lib.hid hbel
    clear hto hown hbel
    by_cases hltk : k < n
    · have h0 : (0 : Int) ≤ (k : Int) := by omega
      have h1 : (k : Int) < (n : Int) := by omega
      have c1 := keepc HB.out (HC.out k hltk).1
      have c2 := keepc HB.out (HC.out k hltk).2
      have htl := HTL.out k
      have hdp := HDP.out k
      obtain ⟨x, hx⟩ : ∃ x, x = X k := ⟨_, rfl⟩
      obtain ⟨y, hy⟩ : ∃ y, y = Y k := ⟨_, rfl⟩
      rw [← hx] at c1 htl hdp
      rw [← hy] at c2 htl hdp
      have hts := HTS.out k
      rw [HTK.out, Bool.true_and] at hts
      have HN1 := Lib.hid (HNO.out k hltk)
      have htp := HTP.out k
      have hgs := gen_succ k T
      rw [htp] at hgs
      obtain ⟨p, hp⟩ : ∃ p, p = P k := ⟨_, rfl⟩
      rw [← hp] at hdp hts HN1 hgs
      have HDPk := Lib.hid hdp
      have HTS1 := Lib.hid hts
      have HGS := Lib.hid hgs
      have HGL := Lib.hid (show (gen k T).length ≤ 1048576 by rw [gen_length]; omega)
      clear hx hy htl hdp hts htp hgs hp
      go_wp2_with fail
      obtain ⟨w5, hw5⟩ : ∃ w5, w5 = wr.alloc (.cells #[.int .i64 x, .int .i64 y] 41) := ⟨_, rfl⟩
      rw [← hw5]
      have d1 : w5.cell? ⟨wr.heap.size, 0, none⟩ = some (.int .i64 x) := by rw [hw5]; exact cell_new0 _ _ _ _
      have d2 : w5.cell? ⟨wr.heap.size, 1, none⟩ = some (.int .i64 y) := by rw [hw5]; exact cell_new1 _ _ _ _
      have D1 := Lib.hid d1
      have D2 := Lib.hid d2
      have HB5 := Lib.hid (show Below w3.heap.size w3 w5 by rw [hw5]; exact belowa HB.out _)
      have HO5 := Lib.hid (show Own w5 w3.heap.size _ (gen k T) by rw [hw5]; exact HOW.out.alloc _)
      have hs5 : w5.heap.size = wr.heap.size + 1 := by rw [hw5]; simp
      clear hw5 d1 d2 c1 c2
      go_loopw [8] (fun i wr' => ∃ j : Nat, j ≤ 4 ∧ i = .int .i64 j ∧ duNo r x y j = true ∧ Below w5.heap.size w5 wr') (fun i _ => 4 - (intOf i).toNat)
      case atStart => exact ⟨0, by omega, rfl, rfl, Below.refl _ _⟩
      case round =>
        obtain ⟨j, hj, rfl, hno, hbel⟩ := hrel
        have HBJ := Lib.hid hbel
        have HNJ := Lib.hid hno
        clear hbel hno
        by_cases hlt : j < 4
        · have j0 : (0 : Int) ≤ (j : Int) := by omega
          have j1 : (j : Int) < 4 := by omega
          have D1J := Lib.hid (keepc HBJ.out D1.out)
          have D2J := Lib.hid (keepc HBJ.out D2.out)
          have HV := Lib.hid (phValue_any (j : Int) (by omega) (by omega))
          have hrx : -4 ≤ r * vx (j : Int) ∧ r * vx (j : Int) ≤ 4 ∧ -4 ≤ r * vy (j : Int) ∧ r * vy (j : Int) ≤ 4 := by
            rcases (show j = 0 ∨ j = 1 ∨ j = 2 ∨ j = 3 by omega) with rfl | rfl | rfl | rfl <;> rcases HR3.out with rfl | rfl | rfl <;> decide
          have hq : ∀ w, (binOp .neq 41 (.agg #[.int .i64 x, .int .i64 y]) (.agg #[.int .i64 (r * vx (j : Int)), .int .i64 (r * vy (j : Int))])).run Try.prog w = .ok (.bool (!duHit r x y j)) w := fun w => run_neqG _ _ _ _ w
          obtain ⟨vX, hvX⟩ : ∃ u, u = vx (j : Int) := ⟨_, rfl⟩
          obtain ⟨vY, hvY⟩ : ∃ u, u = vy (j : Int) := ⟨_, rfl⟩
          rw [← hvX, ← hvY] at HV hrx hq
          obtain ⟨pX, hpX⟩ : ∃ u, u = r * vX := ⟨_, rfl⟩
          obtain ⟨pY, hpY⟩ : ∃ u, u = r * vY := ⟨_, rfl⟩
          rw [← hpX, ← hpY] at hrx hq
          have HM1 := Lib.hid (show IntKind.i64.wrap (r * vX) = pX by rw [← hpX]; exact IntWalk.i64_in _ (by omega))
          have HM2 := Lib.hid (show IntKind.i64.wrap (r * vY) = pY by rw [← hpY]; exact IntWalk.i64_in _ (by omega))
          have HH1 := Lib.hid (fun hh => @duK_hit r x y j hlt HNJ.out hh)
          have HX1 := Lib.hid (fun hh => @duNo_next r x y j HNJ.out hh)
          obtain ⟨c, hc⟩ : ∃ c, c = duHit r x y j := ⟨_, rfl⟩
          rw [← hc] at hq HH1 HX1
          have HQ := Lib.hid hq
          clear hq hvX hvY hpX hpY hrx hc
          go_wp2_with fail
          refine wp_region_held_drew (S := (fun w' => World.grownBy wr w' none)) (by kernel_rfl) (grownDrew (World.grownBy.refl _ _)) ?_
          obtain ⟨d1, hdw⟩ : ∃ w', w' = wr.drew := ⟨_, rfl⟩
          rw [← hdw]
          have hb : Below wr.heap.size wr d1 := by rw [hdw]; exact belowN (Below.refl _ _) 1
          have F1_HB := Lib.hid (joins HBJ.out hb)
          clear hdw hb
          intro hHeld
          refine' wpAnyH_take (i := 0) (v := _) rfl (by kernel_rfl) (by kernel_rfl) (by kernel_rfl) (fun _ _ _ h => h) (Or.inl ⟨by rfl, ?hy1⟩) (by assumption) ?rest1
          case hy1 =>
            intro w h
            (try clear h)
            go_simp
            (try with_reducible rfl)
          (try simp only [Act.put, List.getElem_toArray, List.getElem_cons_zero, List.setIfInBounds_toArray, List.set_cons_zero, List.set_cons_succ])
          refine' wpAnyH_take (i := 1) (v := _) rfl (by kernel_rfl) (by kernel_rfl) (by kernel_rfl) (fun _ _ _ h => h) (Or.inl ⟨by rfl, ?hy2⟩) (by assumption) ?rest2
          case hy2 =>
            intro w h
            (try clear h)
            go_simp
            (try with_reducible rfl)
          (try simp only [Act.put, List.getElem_toArray, List.getElem_cons_zero, List.getElem_cons_succ, List.setIfInBounds_toArray, List.set_cons_zero, List.set_cons_succ])
          refine' wpAnyH_take (i := 2) (v := _) rfl (by kernel_rfl) (by kernel_rfl) (by kernel_rfl) (fun _ _ _ h => h) (Or.inl ⟨by rfl, ?hy3⟩) (by assumption) ?rest3
          case hy3 =>
            intro w h
            (try clear h)
            go_simp
            (try with_reducible rfl)
          (try simp only [Act.put, List.getElem_toArray, List.getElem_cons_zero, List.getElem_cons_succ, List.setIfInBounds_toArray, List.set_cons_zero, List.set_cons_succ])
          refine' wpAnyH_take (i := 3) (v := _) rfl (by kernel_rfl) (by kernel_rfl) (by kernel_rfl) (fun _ _ _ h => h) (Or.inl ⟨by rfl, ?hy4⟩) (by assumption) ?rest4
          case hy4 =>
            intro w h
            have c1 := cellR h D1J.out (by simp)
            have c2 := cellR h D2J.out (by simp)
            (try clear h)
            go_simp
            (try with_reducible rfl)
          (try simp only [Act.put, List.getElem_toArray, List.getElem_cons_zero, List.getElem_cons_succ, List.setIfInBounds_toArray, List.set_cons_zero, List.set_cons_succ])
          refine' wpAnyH_take (i := 4) (v := _) rfl (by kernel_rfl) (by kernel_rfl) (by kernel_rfl) (fun _ _ _ h => h) (Or.inl ⟨by rfl, ?hy5⟩) (by assumption) ?rest5
          case hy5 =>
            intro w h
            (try clear h)
            go_simp
            (try with_reducible rfl)
          (try simp only [Act.put, List.getElem_toArray, List.getElem_cons_zero, List.getElem_cons_succ, List.setIfInBounds_toArray, List.set_cons_zero, List.set_cons_succ])
          refine' wpAnyH_take (i := 5) (v := _) rfl (by kernel_rfl) (by kernel_rfl) (by kernel_rfl) (fun _ _ _ h => h) (Or.inl ⟨by rfl, ?hy6⟩) (by assumption) ?rest6
          case hy6 =>
            intro w h
            (try clear h)
            go_simp
            (try with_reducible rfl)
          (try simp only [Act.put, List.getElem_toArray, List.getElem_cons_zero, List.getElem_cons_succ, List.setIfInBounds_toArray, List.set_cons_zero, List.set_cons_succ])
          refine' wpAnyH_take (i := 9) (v := _) rfl (by kernel_rfl) (by kernel_rfl) (by kernel_rfl) (fun _ _ _ h => h) (Or.inl ⟨by rfl, ?hy7⟩) (by assumption) ?rest7
          case hy7 =>
            intro w h
            (try clear h)
            go_simp
            (try with_reducible rfl)
          (try simp only [Act.put, List.getElem_toArray, List.getElem_cons_zero, List.getElem_cons_succ, List.setIfInBounds_toArray, List.set_cons_zero, List.set_cons_succ])
          refine' wpAnyH_take (i := 10) (v := _) rfl (by kernel_rfl) (by kernel_rfl) (by kernel_rfl) (fun _ _ _ h => h) (Or.inl ⟨by rfl, ?hy8⟩) (by assumption) ?rest8
          case hy8 =>
            intro w h
            (try clear h)
            go_simp
            (try with_reducible rfl)
          (try simp only [Act.put, List.getElem_toArray, List.getElem_cons_zero, List.getElem_cons_succ, List.setIfInBounds_toArray, List.set_cons_zero, List.set_cons_succ])
          refine wpAnyH_ready (rs := [6]) (by kernel_rfl) (by simp) ?_
          refine AllReadyH.cons rfl (fun K hK => ?_) AllReadyH.nil
          go_simp
          refine (HV.out _).mono ?_
          rintro e d2 ⟨rfl, hb⟩
          have F2_HB := Lib.hid (joins F1_HB.out hb)
          have hHeld := grownB hHeld hb
          clear hb
          refine hK.out _ _ hHeld (fun hHeld => ?_)
          clear hK K
          (try simp only [Act.put, List.getElem_toArray, List.getElem_cons_zero, List.getElem_cons_succ, List.setIfInBounds_toArray, List.set_cons_zero, List.set_cons_succ])
          refine' wpAnyH_take (i := 7) (v := _) rfl (by kernel_rfl) (by kernel_rfl) (by kernel_rfl) (fun _ _ _ h => h) (Or.inl ⟨by rfl, ?hy9⟩) (by assumption) ?rest9
          case hy9 =>
            intro w h
            (try clear h)
            go_simp
            (try with_reducible rfl)
          (try simp only [Act.put, List.getElem_toArray, List.getElem_cons_zero, List.getElem_cons_succ, List.setIfInBounds_toArray, List.set_cons_zero, List.set_cons_succ])
          refine' wpAnyH_take (i := 8) (v := _) rfl (by kernel_rfl) (by kernel_rfl) (by kernel_rfl) (fun _ _ _ h => h) (Or.inl ⟨by rfl, ?hy10⟩) (by assumption) ?rest10
          case hy10 =>
            intro w h
            have c1 := HM1.out
            (try clear h)
            go_simp
            (try with_reducible rfl)
          (try simp only [Act.put, List.getElem_toArray, List.getElem_cons_zero, List.getElem_cons_succ, List.setIfInBounds_toArray, List.set_cons_zero, List.set_cons_succ])
          refine wpAnyH_ready (rs := [11]) (by kernel_rfl) (by simp) ?_
          refine AllReadyH.cons rfl (fun K hK => ?_) AllReadyH.nil
          go_simp
          refine (HV.out _).mono ?_
          rintro e d3 ⟨rfl, hb⟩
          have F3_HB := Lib.hid (joins F2_HB.out hb)
          have hHeld := grownB hHeld hb
          clear hb
          refine hK.out _ _ hHeld (fun hHeld => ?_)
          clear hK K
          (try simp only [Act.put, List.getElem_toArray, List.getElem_cons_zero, List.getElem_cons_succ, List.setIfInBounds_toArray, List.set_cons_zero, List.set_cons_succ])
          refine' wpAnyH_take (i := 12) (v := _) rfl (by kernel_rfl) (by kernel_rfl) (by kernel_rfl) (fun _ _ _ h => h) (Or.inl ⟨by rfl, ?hy11⟩) (by assumption) ?rest11
          case hy11 =>
            intro w h
            (try clear h)
            go_simp
            (try with_reducible rfl)
          (try simp only [Act.put, List.getElem_toArray, List.getElem_cons_zero, List.getElem_cons_succ, List.setIfInBounds_toArray, List.set_cons_zero, List.set_cons_succ])
          refine' wpAnyH_take (i := 13) (v := _) rfl (by kernel_rfl) (by kernel_rfl) (by kernel_rfl) (fun _ _ _ h => h) (Or.inl ⟨by rfl, ?hy12⟩) (by assumption) ?rest12
          case hy12 =>
            intro w h
            have c1 := HM2.out
            (try clear h)
            go_simp
            (try with_reducible rfl)
          (try simp only [Act.put, List.getElem_toArray, List.getElem_cons_zero, List.getElem_cons_succ, List.setIfInBounds_toArray, List.set_cons_zero, List.set_cons_succ])
          refine' wpAnyH_take (i := 14) (v := _) rfl (by kernel_rfl) (by kernel_rfl) (by kernel_rfl) (fun _ _ _ h => h) (Or.inl ⟨by rfl, ?hy13⟩) (by assumption) ?rest13
          case hy13 =>
            intro w h
            (try clear h)
            go_simp
            (try with_reducible rfl)
          (try simp only [Act.put, List.getElem_toArray, List.getElem_cons_zero, List.getElem_cons_succ, List.setIfInBounds_toArray, List.set_cons_zero, List.set_cons_succ])
          refine' wpAnyH_take (i := 15) (v := _) rfl (by kernel_rfl) (by kernel_rfl) (by kernel_rfl) (fun _ _ _ h => h) (Or.inl ⟨by rfl, ?hy14⟩) (by assumption) ?rest14
          case hy14 =>
            intro w h
            have c1 := HQ.out
            (try clear h)
            go_simp
            (try with_reducible rfl)
          (try simp only [Act.put, List.getElem_toArray, List.getElem_cons_zero, List.getElem_cons_succ, List.setIfInBounds_toArray, List.set_cons_zero, List.set_cons_succ])
          refine' wpAnyH_take (i := 16) (v := _) rfl (by kernel_rfl) (by kernel_rfl) (by kernel_rfl) (fun _ _ _ h => h) (Or.inl ⟨by rfl, ?hy15⟩) (by assumption) ?rest15
          case hy15 =>
            intro w h
            (try clear h)
            go_simp
            (try with_reducible rfl)
          (try simp only [Act.put, List.getElem_toArray, List.getElem_cons_zero, List.getElem_cons_succ, List.setIfInBounds_toArray, List.set_cons_zero, List.set_cons_succ])
          refine wpAnyH_done (by kernel_rfl) ?_ _
          cases c with
          | true =>
            have hpj : p = j := by rw [HDPk.out]; exact HH1.out rfl
            have HT1 := Lib.hid (show duTo s (k + 1) = true by rw [HTS1.out, hpj]; exact decide_eq_true hlt)
            have HG1 := Lib.hid (show gen (k + 1) T = gen k T ++ [(j : Int)] by rw [HGS.out, hpj])
            have HO6 := Lib.hid (HO5.out.below F3_HB.out)
            have HB6 := Lib.hid (joins HB5.out F3_HB.out)
            clear hpj
            go_wp2_with (at_builtin; refine wpList_push rfl _ _ rfl w3.heap.size _ (gen k T) rfl (HO6.out.alloc _) d3.heap.size 1 (j : Int) rfl (by simp) HGL.out w3.heap.size w3 (HB6.out.alloc HB6.out.size _) (Nat.le_refl _) (by have := HB6.out.size; simp; omega) (by have := HB6.out.size; simp; omega) ?_; intro v9 w9 ho9 hb9)
            go_roundw
            case rel => exact ⟨k + 1, by omega, by go_num, HT1.out, by rw [HG1.out]; exact ho9, hb9⟩
            case measure => simp [intOf]; omega
          | false =>
            go_wp2_with fail
            go_roundw
            case rel => exact ⟨j + 1, by omega, by go_num, HX1.out rfl, F3_HB.out⟩
            case measure => simp [intOf]; omega
        · obtain rfl : j = 4 := by omega
          have hp4 : p = 4 := by rw [HDPk.out]; exact duK_none HNJ.out
          have HQF := Lib.hid (HN1.out (by omega))
          have HBX := Lib.hid (joins HB5.out HBJ.out)
          clear hp4
          go_wp2_with fail
          go_quiet (fail)
          go_wp2_with fail
          go_returns
          exact ⟨_, by rw [HQF.out]; rfl, by rw [HLL.out, HQF.out, if_neg Bool.false_ne_true]; exact World.ownsRow_nil _ _ _ _, belowN (joins HB3.out HBX.out) _⟩
    · obtain rfl : k = n := by omega
      have hq : q = true := by rw [HDB.out]; exact HTK.out
      have HQ := Lib.hid hq
      clear hq
      go_wp2_with fail
      go_returns
      refine ⟨_, by rw [HQ.out]; rfl, ?_, joins HB3.out HB.out⟩
      rw [HLL.out, HQ.out, if_pos rfl, HDL.out]
      exact Own.mono HOW.out HB3.out.size

set_option maxRecDepth 100000 in
set_option maxHeartbeats 1000000 in
theorem sdualOf (v : Value) (s : List Int) (w : World) (hv : IS w v s) (hl : s.length ≤ 1048576) : Calls Try.prog 19 #[v] w (MakesB w (duA s) (duOk s)) := by
  have HS := Lib.hid (tfSequence_any v s w hv hl)
  cases h : sqTf s with
  | false =>
    rw [h] at HS
    have e1 : duOk s = false := by unfold duOk; rw [h]; rfl
    have e2 : duA s = [] := by unfold duA; rw [e1]; rfl
    rw [e1, e2]
    clear h hv hl e1 e2
    go_enter Try.func19, Try.ntmps19
    go_wp2_with fail
    refine (HS.out).mono ?_
    rintro e w1 ⟨rfl, hb⟩
    have HB := Lib.hid hb
    clear hb
    go_wp2_with fail
    go_returns
    exact ⟨_, rfl, World.ownsRow_nil _ _ _ _, HB.out⟩
  | true =>
    rw [h] at HS
    have HF := Lib.hid (fun w' (hb : Below w.heap.size w w') => tfDual_any v s w' (hv.below hb) h)
    have e1 : duOk s = duB s := by unfold duOk; rw [h]; rfl
    have e2 : duA s = (if duB s then duL s else []) := by unfold duA; rw [e1]
    rw [e1, e2]
    obtain ⟨q, hq⟩ : ∃ q, q = duB s := ⟨_, rfl⟩
    obtain ⟨L, hL⟩ : ∃ L, L = (if duB s then duL s else []) := ⟨_, rfl⟩
    rw [← hL, ← hq] at HF ⊢
    clear h hv hl hq hL e1 e2
    go_enter Try.func19, Try.ntmps19
    go_wp2_with fail
    refine (HS.out).mono ?_
    rintro e w1 ⟨rfl, hb⟩
    have HB1 := Lib.hid hb
    clear hb
    go_wp2_with fail
    refine (HF.out _ HB1.out).mono ?_
    rintro e w2 ⟨v2, rfl, ho, hb⟩
    have HB2 := Lib.hid (joins HB1.out hb)
    have HO2 := Lib.hid (Own.mono ho HB1.out.size)
    clear hb ho
    go_wp2_with fail
    go_returns
    exact ⟨v2, rfl, HO2.out, HB2.out⟩
end Go.Proofs.Ytjoepdflbbcliac
