/- The model's FrankOf. -/
import Derived.Test.YtjoepdflbbcliaaFrM
import Derived.Test.YtjoepdflbbcliaaSMov
import Derived.Test.YtjoepdflbbcliaaApp
namespace Go.Proofs.Ytjoepdflbbcliaa
set_option maxRecDepth 100000
open Go.RowKit

set_option maxHeartbeats 2000000 in
theorem sfrankOf (v : Value) (p : List Int) (k : Int) (w : World) (hv : IS w v p) (hlen : p.length ≤ 1048576) : Calls Try.prog 25 #[v, .int .i64 k] w (MakesB w (frF p k) (frOk p k)) := by
  obtain ⟨a0, cap, rfl⟩ : ∃ a cap, v = .slice a p.length cap := by rcases hv with ⟨rfl, a, cap, rfl⟩ | ⟨_, b, off, cap, rfl, _⟩ <;> exact ⟨_, _, rfl⟩
  have HV := Lib.hid hv
  have HAL := Lib.hid (fun lo hi => l1All_any _ p lo hi w hv)
  by_cases hl : p.length = 4
  · cases hp : allIn p 0 3 with
    | false =>
      have ho : frOk p k = false := by
        unfold frOk
        cases h : orOk p with
        | false => simp
        | true => rw [or_four hl h] at hp; cases hp
      have hf : frF p k = [] := by unfold frF; rw [ho]; rfl
      rw [ho, hf]
      have HA := Lib.hid (HAL.out 0 3)
      rw [hp] at HA
      rw [hl] at HA ⊢
      clear ho hf hp hl hv hlen HV HAL
      go_enter Try.func25, Try.ntmps25
      go_wp2_with fail
      refine (HA.out).mono ?_
      rintro e w1 ⟨rfl, hb⟩
      go_wp2_with fail
      go_returns
      exact ⟨_, rfl, World.ownsRow_nil _ _ _ _, hb⟩
    | true =>
      have HA := Lib.hid (HAL.out 0 3)
      rw [hp] at HA
      by_cases hk : k = 1 ∨ k = 3
      · have HIN := Lib.hid (fun j (hj : j < 4) => fr_in hp j (by rw [hl]; exact hj))
        have HSQ := Lib.hid (fun (j a : Nat) (hj : j < 4) (ha : a < 4) => fr_sq (p.getD j 0) (fr_in hp j (by rw [hl]; exact hj)) k hk a ha)
        have hor := seenV_or hl hp
        have ho : frOk p k = orOk p := by unfold frOk; rw [decide_eq_true hl, decide_eq_true hk]; simp
        have hf1 : orOk p = true → frF p k = gen 16 (frT p k) := fun h => by unfold frF; rw [ho, h]; rfl
        have hf0 : orOk p = false → frF p k = [] := fun h => by unfold frF; rw [ho, h]; rfl
        have HLEN := Lib.hid hl
        rw [ho]
        obtain ⟨F, hF⟩ : ∃ F, F = frF p k := ⟨_, rfl⟩
        rw [← hF] at hf0 hf1 ⊢
        rw [hl] at HA HV ⊢
        have HT := Lib.hid (fun (a b : Nat) (hb : b < 4) => show frT p k (4 * a + b) = (k * (a : Int) * p.getD b 0 + p.getD b 0 * p.getD b 0) % 4 by
          unfold frT
          rw [show (4 * a + b) / 4 = a by omega, show (4 * a + b) % 4 = b by omega])
        obtain ⟨T, hT⟩ : ∃ T, T = frT p k := ⟨_, rfl⟩
        rw [← hT] at HT hf1
        obtain ⟨q, hq⟩ : ∃ q, q = orOk p := ⟨_, rfl⟩
        rw [← hq] at hor hf0 hf1 ⊢
        have HOR := Lib.hid hor
        have HF1 := Lib.hid hf1
        have HF0 := Lib.hid hf0
        have hk1 : k = 1 ∨ k = 3 := hk
        clear ho hf0 hf1 hF hp hl hv hlen HAL hT hq hor hk
        go_enter Try.func25, Try.ntmps25
        rcases hk1 with rfl | rfl
        · skip
          go_wp2_with fail
          refine (HA.out).mono ?_
          rintro e w1 ⟨rfl, hb⟩
          have B1 := Lib.hid hb
          clear hb
          go_wp2_with fail
          go_loopw [30, 6, 8] (fun i s _ wr => ∃ j : Nat, j ≤ 4 ∧ i = .int .i64 j ∧ s = .int .i64 (seenV (p.take j)) ∧ wr = w1) (fun i _ _ _ => 4 - (intOf i).toNat)
          case atStart => exact ⟨0, by omega, rfl, rfl, rfl⟩
          case round =>
            obtain ⟨j, hj, rfl, rfl, rfl⟩ := hrel
            by_cases hlt : j < 4
            · have h0 : (0 : Int) ≤ (j : Int) := by omega
              have h1 : (j : Int) < 4 := by omega
              have hx := HIN.out j hlt
              have hjl : j < p.length := by rw [HLEN.out]; exact hlt
              have hsn := seenV_snoc (p.take j) (p.getD j 0)
              rw [← take_nextF hjl] at hsn
              obtain ⟨x, hxd⟩ : ∃ x, x = p.getD j 0 := ⟨_, rfl⟩
              rcases HV.out.below B1.out with ⟨h0', _⟩ | ⟨_, b, off, cap', hveq, _, hc⟩
              · rw [h0'] at hjl; exact absurd hjl (Nat.not_lt_zero _)
              simp only [Value.slice.injEq] at hveq
              obtain ⟨rfl, hnn, rfl⟩ := hveq
              clear hnn
              have c1 := hc j hjl
              clear hc
              rw [← hxd] at c1 hx hsn
              obtain ⟨hx1, hx2⟩ := hx
              obtain ⟨S, hS⟩ : ∃ S, S = seenV (p.take j) := ⟨_, rfl⟩
              rw [← hS] at hsn ⊢
              have HSN := Lib.hid hsn
              clear hsn hS hxd
              go_wp2_with fail
              go_roundw
              case rel => exact ⟨j + 1, by omega, by go_num, by rw [HSN.out], by trivial⟩
              case measure => simp [intOf]; omega
            · have h4 : (4 : Int) ≤ (j : Int) := by omega
              have he : p.take j = p := by rw [List.take_of_length_le (by rw [HLEN.out]; omega)]
              rw [he]
              have ho := HOR.out
              obtain ⟨S, hS⟩ : ∃ S, S = seenV p := ⟨_, rfl⟩
              rw [← hS] at ho ⊢
              clear hS he
              cases q with
              | false =>
                have hn : ¬ S = 15 := of_decide_eq_false ho
                have HFz := Lib.hid (HF0.out rfl)
                clear ho HOR HF1 HF0
                go_wp2_with fail
                go_returns
                refine ⟨_, rfl, ?_, B1.out⟩
                rw [HFz.out]
                exact World.ownsRow_nil _ _ _ _
              | true =>
                have hn : S = 15 := of_decide_eq_true ho
                subst hn
                have HFz := Lib.hid (HF1.out rfl)
                clear ho HOR HF1 HF0
                go_wp2_with fail
                go_loopw [10, 9] (fun i o wx => ∃ a : Nat, a ≤ 4 ∧ i = .int .i64 a ∧ Own wx w.heap.size o (gen (4 * a) T) ∧ Below w.heap.size w wx) (fun i _ _ => 4 - (intOf i).toNat)
                case atStart => exact ⟨0, by omega, rfl, World.ownsRow_nil _ _ _ _, B1.out⟩
                case round =>
                  obtain ⟨a, ha, rfl, hown, hbel⟩ := hrel
                  have HO := Lib.hid hown
                  have HB := Lib.hid hbel
                  clear hown hbel
                  by_cases hla : a < 4
                  · have h0a : (0 : Int) ≤ (a : Int) := by omega
                    have h1a : (a : Int) < 4 := by omega
                    go_wp2_with fail
                    go_loopw [11, 9] (fun i o wx => ∃ b : Nat, b ≤ 4 ∧ i = .int .i64 b ∧ Own wx w.heap.size o (gen (4 * a + b) T) ∧ Below w.heap.size w wx) (fun i _ _ => 4 - (intOf i).toNat)
                    case atStart => exact ⟨0, by omega, rfl, HO.out, HB.out⟩
                    case round =>
                      obtain ⟨b, hb, rfl, hown, hbel⟩ := hrel
                      have HO2 := Lib.hid hown
                      have HB2 := Lib.hid hbel
                      clear hown hbel
                      by_cases hlb : b < 4
                      · have h0b : (0 : Int) ≤ (b : Int) := by omega
                        have h1b : (b : Int) < 4 := by omega
                        have hx := HIN.out b hlb
                        have hsq := HSQ.out b a hlb hla
                        have hTb := HT.out a b hlb
                        have hbl : b < p.length := by rw [HLEN.out]; exact hlb
                        have hgs := gen_succ (4 * a + b) T
                        rw [hTb] at hgs
                        obtain ⟨x, hxd⟩ : ∃ x, x = p.getD b 0 := ⟨_, rfl⟩
                        rcases HV.out with ⟨h0', _⟩ | ⟨_, b2, off, cap', hveq, _, hc⟩
                        · rw [h0'] at hbl; exact absurd hbl (Nat.not_lt_zero _)
                        simp only [Value.slice.injEq] at hveq
                        obtain ⟨rfl, hnn, rfl⟩ := hveq
                        clear hnn
                        have cw := hc b hbl
                        rw [← hxd] at cw hx hsq hgs
                        have HC1 := Lib.hid (keepc HB2.out cw)
                        have HNE := Lib.hid (HO2.out.ne (World.block_lt_of_cell? w _ cw))
                        clear hc cw
                        have hgl : (gen (4 * a + b) T).length ≤ 1048576 := by rw [gen_length]; omega
                        have HGL := Lib.hid hgl
                        obtain ⟨hx1, hx2⟩ := hx
                        obtain ⟨⟨q1, q2⟩, ⟨q3, q4⟩, ⟨q5, q6⟩, -, -, q7⟩ := hsq
                        rw [← q7] at hgs
                        obtain ⟨⟨x1, x2⟩, ⟨x3, x4⟩, x5, x6, x7⟩ := fr_wraps x ⟨hx1, hx2⟩ a hla
                        (try simp only [Int.one_mul] at hgs q3 q4)
                        have HGS := Lib.hid hgs
                        clear hgs hxd hgl hTb hbl q7
                        go_wp2_with fail
                        refine wp_region_held_drew (S := (fun w' => World.grownBy wr w' u9.ownBlock)) (by kernel_rfl) (grownDrew (World.grownBy.refl _ _)) ?_
                        obtain ⟨d1, hdw⟩ : ∃ w', w' = wr.drew := ⟨_, rfl⟩
                        rw [← hdw]
                        have hb : Below wr.heap.size wr d1 := by rw [hdw]; exact belowN (Below.refl _ _) 1
                        have F1_O := Lib.hid (HO2.out.below hb)
                        have F1_B := Lib.hid (joins HB2.out hb)
                        clear hdw hb
                        intro hHeld
                        refine' wpAnyH_take (i := 0) (v := _) rfl (by kernel_rfl) (by kernel_rfl) (by kernel_rfl) (fun _ _ _ h => h) (Or.inl ⟨by rfl, ?hy1⟩) (by assumption) ?rest1
                        case hy1 =>
                          intro w h
                          (try clear h)
                          go_simp
                          (try with_reducible rfl)
                        (try simp only [Act.put, List.getElem_toArray, List.getElem_cons_zero, List.setIfInBounds_toArray, List.set_cons_zero, List.set_cons_succ])
                        refine' wpAnyH_take (i := 1) (v := _) rfl (by kernel_rfl) (by kernel_rfl) (by kernel_rfl) (fun _ _ _ h => h) (Or.inl ⟨by rfl, ?hy2⟩) (by assumption) ?rest2
                        case hy2 =>
                          intro w h
                          (try clear h)
                          go_simp
                          (try with_reducible rfl)
                        (try simp only [Act.put, List.getElem_toArray, List.getElem_cons_zero, List.getElem_cons_succ, List.setIfInBounds_toArray, List.set_cons_zero, List.set_cons_succ])
                        refine' wpAnyH_take (i := 2) (v := _) rfl (by kernel_rfl) (by kernel_rfl) (by kernel_rfl) (fun _ _ _ h => h) (Or.inl ⟨by rfl, ?hy3⟩) (by assumption) ?rest3
                        case hy3 =>
                          intro w h
                          (try clear h)
                          go_simp
                          (try with_reducible rfl)
                        (try simp only [Act.put, List.getElem_toArray, List.getElem_cons_zero, List.getElem_cons_succ, List.setIfInBounds_toArray, List.set_cons_zero, List.set_cons_succ])
                        refine' wpAnyH_take (i := 3) (v := _) rfl (by kernel_rfl) (by kernel_rfl) (by kernel_rfl) (fun _ _ _ h => h) (Or.inl ⟨by rfl, ?hy4⟩) (by assumption) ?rest4
                        case hy4 =>
                          intro w h
                          (try clear h)
                          go_simp
                          (try with_reducible rfl)
                        (try simp only [Act.put, List.getElem_toArray, List.getElem_cons_zero, List.getElem_cons_succ, List.setIfInBounds_toArray, List.set_cons_zero, List.set_cons_succ])
                        refine' wpAnyH_take (i := 4) (v := _) rfl (by kernel_rfl) (by kernel_rfl) (by kernel_rfl) (fun _ _ _ h => h) (Or.inl ⟨by rfl, ?hy5⟩) (by assumption) ?rest5
                        case hy5 =>
                          intro w h
                          (try clear h)
                          go_simp
                          (try with_reducible rfl)
                        (try simp only [Act.put, List.getElem_toArray, List.getElem_cons_zero, List.getElem_cons_succ, List.setIfInBounds_toArray, List.set_cons_zero, List.set_cons_succ])
                        refine' wpAnyH_take (i := 5) (v := _) rfl (by kernel_rfl) (by kernel_rfl) (by kernel_rfl) (fun _ _ _ h => h) (Or.inl ⟨by rfl, ?hy6⟩) (by assumption) ?rest6
                        case hy6 =>
                          intro w h
                          have c1 := cellR h HC1.out HNE.out
                          (try clear h)
                          go_simp
                          (try with_reducible rfl)
                        (try simp only [Act.put, List.getElem_toArray, List.getElem_cons_zero, List.getElem_cons_succ, List.setIfInBounds_toArray, List.set_cons_zero, List.set_cons_succ])
                        refine' wpAnyH_take (i := 6) (v := _) rfl (by kernel_rfl) (by kernel_rfl) (by kernel_rfl) (fun _ _ _ h => h) (Or.inl ⟨by rfl, ?hy7⟩) (by assumption) ?rest7
                        case hy7 =>
                          intro w h
                          (try clear h)
                          go_simp
                          (try with_reducible rfl)
                        (try simp only [Act.put, List.getElem_toArray, List.getElem_cons_zero, List.getElem_cons_succ, List.setIfInBounds_toArray, List.set_cons_zero, List.set_cons_succ])
                        refine' wpAnyH_take (i := 7) (v := _) rfl (by kernel_rfl) (by kernel_rfl) (by kernel_rfl) (fun _ _ _ h => h) (Or.inl ⟨by rfl, ?hy8⟩) (by assumption) ?rest8
                        case hy8 =>
                          intro w h
                          (try clear h)
                          go_simp
                          (try with_reducible rfl)
                        (try simp only [Act.put, List.getElem_toArray, List.getElem_cons_zero, List.getElem_cons_succ, List.setIfInBounds_toArray, List.set_cons_zero, List.set_cons_succ])
                        refine' wpAnyH_take (i := 8) (v := _) rfl (by kernel_rfl) (by kernel_rfl) (by kernel_rfl) (fun _ _ _ h => h) (Or.inl ⟨by rfl, ?hy9⟩) (by assumption) ?rest9
                        case hy9 =>
                          intro w h
                          (try clear h)
                          go_simp
                          (try with_reducible rfl)
                        (try simp only [Act.put, List.getElem_toArray, List.getElem_cons_zero, List.getElem_cons_succ, List.setIfInBounds_toArray, List.set_cons_zero, List.set_cons_succ])
                        refine' wpAnyH_take (i := 9) (v := _) rfl (by kernel_rfl) (by kernel_rfl) (by kernel_rfl) (fun _ _ _ h => h) (Or.inl ⟨by rfl, ?hy10⟩) (by assumption) ?rest10
                        case hy10 =>
                          intro w h
                          (try clear h)
                          go_simp
                          (try with_reducible rfl)
                        (try simp only [Act.put, List.getElem_toArray, List.getElem_cons_zero, List.getElem_cons_succ, List.setIfInBounds_toArray, List.set_cons_zero, List.set_cons_succ])
                        refine' wpAnyH_take (i := 10) (v := _) rfl (by kernel_rfl) (by kernel_rfl) (by kernel_rfl) (fun _ _ _ h => h) (Or.inl ⟨by rfl, ?hy11⟩) (by assumption) ?rest11
                        case hy11 =>
                          intro w h
                          (try clear h)
                          go_simp
                          (try with_reducible rfl)
                        (try simp only [Act.put, List.getElem_toArray, List.getElem_cons_zero, List.getElem_cons_succ, List.setIfInBounds_toArray, List.set_cons_zero, List.set_cons_succ])
                        refine' wpAnyH_take (i := 11) (v := _) rfl (by kernel_rfl) (by kernel_rfl) (by kernel_rfl) (fun _ _ _ h => h) (Or.inl ⟨by rfl, ?hy12⟩) (by assumption) ?rest12
                        case hy12 =>
                          intro w h
                          (try clear h)
                          go_simp
                          (try with_reducible rfl)
                        (try simp only [Act.put, List.getElem_toArray, List.getElem_cons_zero, List.getElem_cons_succ, List.setIfInBounds_toArray, List.set_cons_zero, List.set_cons_succ])
                        refine' wpAnyH_take (i := 12) (v := _) rfl (by kernel_rfl) (by kernel_rfl) (by kernel_rfl) (fun _ _ _ h => h) (Or.inl ⟨by rfl, ?hy13⟩) (by assumption) ?rest13
                        case hy13 =>
                          intro w h
                          have c1 := cellR h HC1.out HNE.out
                          (try clear h)
                          go_simp
                          (try with_reducible rfl)
                        (try simp only [Act.put, List.getElem_toArray, List.getElem_cons_zero, List.getElem_cons_succ, List.setIfInBounds_toArray, List.set_cons_zero, List.set_cons_succ])
                        refine' wpAnyH_take (i := 13) (v := _) rfl (by kernel_rfl) (by kernel_rfl) (by kernel_rfl) (fun _ _ _ h => h) (Or.inl ⟨by rfl, ?hy14⟩) (by assumption) ?rest14
                        case hy14 =>
                          intro w h
                          (try clear h)
                          go_simp
                          (try with_reducible rfl)
                        (try simp only [Act.put, List.getElem_toArray, List.getElem_cons_zero, List.getElem_cons_succ, List.setIfInBounds_toArray, List.set_cons_zero, List.set_cons_succ])
                        refine' wpAnyH_take (i := 14) (v := _) rfl (by kernel_rfl) (by kernel_rfl) (by kernel_rfl) (fun _ _ _ h => h) (Or.inl ⟨by rfl, ?hy15⟩) (by assumption) ?rest15
                        case hy15 =>
                          intro w h
                          (try clear h)
                          go_simp
                          (try with_reducible rfl)
                        (try simp only [Act.put, List.getElem_toArray, List.getElem_cons_zero, List.getElem_cons_succ, List.setIfInBounds_toArray, List.set_cons_zero, List.set_cons_succ])
                        refine' wpAnyH_take (i := 15) (v := _) rfl (by kernel_rfl) (by kernel_rfl) (by kernel_rfl) (fun _ _ _ h => h) (Or.inl ⟨by rfl, ?hy16⟩) (by assumption) ?rest16
                        case hy16 =>
                          intro w h
                          (try clear h)
                          go_simp
                          (try with_reducible rfl)
                        (try simp only [Act.put, List.getElem_toArray, List.getElem_cons_zero, List.getElem_cons_succ, List.setIfInBounds_toArray, List.set_cons_zero, List.set_cons_succ])
                        refine' wpAnyH_take (i := 16) (v := _) rfl (by kernel_rfl) (by kernel_rfl) (by kernel_rfl) (fun _ _ _ h => h) (Or.inl ⟨by rfl, ?hy17⟩) (by assumption) ?rest17
                        case hy17 =>
                          intro w h
                          have c1 := cellR h HC1.out HNE.out
                          (try clear h)
                          go_simp
                          (try with_reducible rfl)
                        (try simp only [Act.put, List.getElem_toArray, List.getElem_cons_zero, List.getElem_cons_succ, List.setIfInBounds_toArray, List.set_cons_zero, List.set_cons_succ])
                        refine' wpAnyH_take (i := 17) (v := _) rfl (by kernel_rfl) (by kernel_rfl) (by kernel_rfl) (fun _ _ _ h => h) (Or.inl ⟨by rfl, ?hy18⟩) (by assumption) ?rest18
                        case hy18 =>
                          intro w h
                          (try clear h)
                          go_simp
                          (try with_reducible rfl)
                        (try simp only [Act.put, List.getElem_toArray, List.getElem_cons_zero, List.getElem_cons_succ, List.setIfInBounds_toArray, List.set_cons_zero, List.set_cons_succ])
                        refine' wpAnyH_take (i := 18) (v := _) rfl (by kernel_rfl) (by kernel_rfl) (by kernel_rfl) (fun _ _ _ h => h) (Or.inl ⟨by rfl, ?hy19⟩) (by assumption) ?rest19
                        case hy19 =>
                          intro w h
                          (try clear h)
                          go_simp
                          (try with_reducible rfl)
                        (try simp only [Act.put, List.getElem_toArray, List.getElem_cons_zero, List.getElem_cons_succ, List.setIfInBounds_toArray, List.set_cons_zero, List.set_cons_succ])
                        refine wpAnyH_ready (rs := [19]) (by kernel_rfl) (by simp) ?_
                        refine AllReadyH.cons rfl (fun K hK => ?_) AllReadyH.nil
                        go_simp
                        refine (phMod_any _ (by omega) (by omega) _).mono ?_
                        rintro e w' ⟨rfl, rfl⟩
                        refine hK.out _ _ hHeld (fun hHeld => ?_)
                        clear hK K
                        (try simp only [Act.put, List.getElem_toArray, List.getElem_cons_zero, List.getElem_cons_succ, List.setIfInBounds_toArray, List.set_cons_zero, List.set_cons_succ])
                        refine wpAnyH_ready (rs := [20]) (by kernel_rfl) (by simp) ?_
                        refine AllReadyH.cons rfl (fun K hK => ?_) AllReadyH.nil
                        go_simp
                        refine hK.out _ _ (grownA hHeld _) (fun hHeld => ?_)
                        clear hK K
                        (try simp only [Act.put, List.getElem_toArray, List.getElem_cons_zero, List.getElem_cons_succ, List.setIfInBounds_toArray, List.set_cons_zero, List.set_cons_succ])
                        refine wpAnyH_ready (rs := [21]) (by kernel_rfl) (by simp) ?_
                        refine AllReadyH.cons rfl (fun K hK => ?_) AllReadyH.nil
                        refine step_push rfl (.tmp 49) (.tmp 69) rfl w.heap.size _ (gen (4 * a + b) T) rfl (F1_O.out.alloc _) d1.heap.size 1 _ rfl (cell_new_one _ _ _) HGL.out w.heap.size w (F1_B.out.alloc F1_B.out.size _) (Nat.le_refl _) (by have := F1_B.out.size; simp; omega) (by have := F1_B.out.size; simp; omega) ?_
                        intro v2 w2 ho2 hb2 hg2
                        have HO2_ := Lib.hid ho2
                        have HB2_ := Lib.hid hb2
                        refine hK.out _ _ (grown_trans hHeld hg2) (fun hHeld => ?_)
                        clear ho2 hb2 hg2
                        clear hK K
                        (try simp only [Act.put, List.getElem_toArray, List.getElem_cons_zero, List.getElem_cons_succ, List.setIfInBounds_toArray, List.set_cons_zero, List.set_cons_succ])
                        refine' wpAnyH_take (i := 22) (v := _) rfl (by kernel_rfl) (by kernel_rfl) (by kernel_rfl) (fun _ _ _ h => h) (Or.inl ⟨by rfl, ?hy20⟩) (by assumption) ?rest20
                        case hy20 =>
                          intro w h
                          (try clear h)
                          go_simp
                          (try with_reducible rfl)
                        (try simp only [Act.put, List.getElem_toArray, List.getElem_cons_zero, List.getElem_cons_succ, List.setIfInBounds_toArray, List.set_cons_zero, List.set_cons_succ])
                        refine wpAnyH_done (by kernel_rfl) ?_ _
                        go_wp2_with fail
                        go_roundw
                        case rel => exact ⟨b + 1, by omega, by go_num, by rw [show 4 * a + (b + 1) = 4 * a + b + 1 by omega, HGS.out]; exact HO2_.out, HB2_.out⟩
                        case measure => simp [intOf]; omega
                      · obtain rfl : b = 4 := by omega
                        go_wp2_with fail
                        go_roundw
                        case rel => exact ⟨a + 1, by omega, by go_num, by rw [show 4 * (a + 1) = 4 * a + 4 by omega]; exact HO2.out, HB2.out⟩
                        case measure => simp [intOf]; omega
                  · obtain rfl : a = 4 := by omega
                    go_wp2_with fail
                    go_returns
                    refine ⟨_, rfl, ?_, HB.out⟩
                    rw [HFz.out]
                    exact HO.out
        · skip
          go_wp2_with fail
          refine (HA.out).mono ?_
          rintro e w1 ⟨rfl, hb⟩
          have B1 := Lib.hid hb
          clear hb
          go_wp2_with fail
          go_loopw [30, 6, 8] (fun i s _ wr => ∃ j : Nat, j ≤ 4 ∧ i = .int .i64 j ∧ s = .int .i64 (seenV (p.take j)) ∧ wr = w1) (fun i _ _ _ => 4 - (intOf i).toNat)
          case atStart => exact ⟨0, by omega, rfl, rfl, rfl⟩
          case round =>
            obtain ⟨j, hj, rfl, rfl, rfl⟩ := hrel
            by_cases hlt : j < 4
            · have h0 : (0 : Int) ≤ (j : Int) := by omega
              have h1 : (j : Int) < 4 := by omega
              have hx := HIN.out j hlt
              have hjl : j < p.length := by rw [HLEN.out]; exact hlt
              have hsn := seenV_snoc (p.take j) (p.getD j 0)
              rw [← take_nextF hjl] at hsn
              obtain ⟨x, hxd⟩ : ∃ x, x = p.getD j 0 := ⟨_, rfl⟩
              rcases HV.out.below B1.out with ⟨h0', _⟩ | ⟨_, b, off, cap', hveq, _, hc⟩
              · rw [h0'] at hjl; exact absurd hjl (Nat.not_lt_zero _)
              simp only [Value.slice.injEq] at hveq
              obtain ⟨rfl, hnn, rfl⟩ := hveq
              clear hnn
              have c1 := hc j hjl
              clear hc
              rw [← hxd] at c1 hx hsn
              obtain ⟨hx1, hx2⟩ := hx
              obtain ⟨S, hS⟩ : ∃ S, S = seenV (p.take j) := ⟨_, rfl⟩
              rw [← hS] at hsn ⊢
              have HSN := Lib.hid hsn
              clear hsn hS hxd
              go_wp2_with fail
              go_roundw
              case rel => exact ⟨j + 1, by omega, by go_num, by rw [HSN.out], by trivial⟩
              case measure => simp [intOf]; omega
            · have h4 : (4 : Int) ≤ (j : Int) := by omega
              have he : p.take j = p := by rw [List.take_of_length_le (by rw [HLEN.out]; omega)]
              rw [he]
              have ho := HOR.out
              obtain ⟨S, hS⟩ : ∃ S, S = seenV p := ⟨_, rfl⟩
              rw [← hS] at ho ⊢
              clear hS he
              cases q with
              | false =>
                have hn : ¬ S = 15 := of_decide_eq_false ho
                have HFz := Lib.hid (HF0.out rfl)
                clear ho HOR HF1 HF0
                go_wp2_with fail
                go_returns
                refine ⟨_, rfl, ?_, B1.out⟩
                rw [HFz.out]
                exact World.ownsRow_nil _ _ _ _
              | true =>
                have hn : S = 15 := of_decide_eq_true ho
                subst hn
                have HFz := Lib.hid (HF1.out rfl)
                clear ho HOR HF1 HF0
                go_wp2_with fail
                go_loopw [10, 9] (fun i o wx => ∃ a : Nat, a ≤ 4 ∧ i = .int .i64 a ∧ Own wx w.heap.size o (gen (4 * a) T) ∧ Below w.heap.size w wx) (fun i _ _ => 4 - (intOf i).toNat)
                case atStart => exact ⟨0, by omega, rfl, World.ownsRow_nil _ _ _ _, B1.out⟩
                case round =>
                  obtain ⟨a, ha, rfl, hown, hbel⟩ := hrel
                  have HO := Lib.hid hown
                  have HB := Lib.hid hbel
                  clear hown hbel
                  by_cases hla : a < 4
                  · have h0a : (0 : Int) ≤ (a : Int) := by omega
                    have h1a : (a : Int) < 4 := by omega
                    go_wp2_with fail
                    go_loopw [11, 9] (fun i o wx => ∃ b : Nat, b ≤ 4 ∧ i = .int .i64 b ∧ Own wx w.heap.size o (gen (4 * a + b) T) ∧ Below w.heap.size w wx) (fun i _ _ => 4 - (intOf i).toNat)
                    case atStart => exact ⟨0, by omega, rfl, HO.out, HB.out⟩
                    case round =>
                      obtain ⟨b, hb, rfl, hown, hbel⟩ := hrel
                      have HO2 := Lib.hid hown
                      have HB2 := Lib.hid hbel
                      clear hown hbel
                      by_cases hlb : b < 4
                      · have h0b : (0 : Int) ≤ (b : Int) := by omega
                        have h1b : (b : Int) < 4 := by omega
                        have hx := HIN.out b hlb
                        have hsq := HSQ.out b a hlb hla
                        have hTb := HT.out a b hlb
                        have hbl : b < p.length := by rw [HLEN.out]; exact hlb
                        have hgs := gen_succ (4 * a + b) T
                        rw [hTb] at hgs
                        obtain ⟨x, hxd⟩ : ∃ x, x = p.getD b 0 := ⟨_, rfl⟩
                        rcases HV.out with ⟨h0', _⟩ | ⟨_, b2, off, cap', hveq, _, hc⟩
                        · rw [h0'] at hbl; exact absurd hbl (Nat.not_lt_zero _)
                        simp only [Value.slice.injEq] at hveq
                        obtain ⟨rfl, hnn, rfl⟩ := hveq
                        clear hnn
                        have cw := hc b hbl
                        rw [← hxd] at cw hx hsq hgs
                        have HC1 := Lib.hid (keepc HB2.out cw)
                        have HNE := Lib.hid (HO2.out.ne (World.block_lt_of_cell? w _ cw))
                        clear hc cw
                        have hgl : (gen (4 * a + b) T).length ≤ 1048576 := by rw [gen_length]; omega
                        have HGL := Lib.hid hgl
                        obtain ⟨hx1, hx2⟩ := hx
                        obtain ⟨⟨q1, q2⟩, ⟨q3, q4⟩, ⟨q5, q6⟩, -, -, q7⟩ := hsq
                        rw [← q7] at hgs
                        obtain ⟨⟨x1, x2⟩, ⟨x3, x4⟩, x5, x6, x7⟩ := fr_wraps x ⟨hx1, hx2⟩ a hla
                        (try simp only [Int.one_mul] at hgs q3 q4)
                        have HGS := Lib.hid hgs
                        clear hgs hxd hgl hTb hbl q7
                        go_wp2_with fail
                        refine wp_region_held_drew (S := (fun w' => World.grownBy wr w' u9.ownBlock)) (by kernel_rfl) (grownDrew (World.grownBy.refl _ _)) ?_
                        obtain ⟨d1, hdw⟩ : ∃ w', w' = wr.drew := ⟨_, rfl⟩
                        rw [← hdw]
                        have hb : Below wr.heap.size wr d1 := by rw [hdw]; exact belowN (Below.refl _ _) 1
                        have F1_O := Lib.hid (HO2.out.below hb)
                        have F1_B := Lib.hid (joins HB2.out hb)
                        clear hdw hb
                        intro hHeld
                        refine' wpAnyH_take (i := 0) (v := _) rfl (by kernel_rfl) (by kernel_rfl) (by kernel_rfl) (fun _ _ _ h => h) (Or.inl ⟨by rfl, ?hy1001⟩) (by assumption) ?rest1001
                        case hy1001 =>
                          intro w h
                          (try clear h)
                          go_simp
                          (try with_reducible rfl)
                        (try simp only [Act.put, List.getElem_toArray, List.getElem_cons_zero, List.setIfInBounds_toArray, List.set_cons_zero, List.set_cons_succ])
                        refine' wpAnyH_take (i := 1) (v := _) rfl (by kernel_rfl) (by kernel_rfl) (by kernel_rfl) (fun _ _ _ h => h) (Or.inl ⟨by rfl, ?hy1002⟩) (by assumption) ?rest1002
                        case hy1002 =>
                          intro w h
                          (try clear h)
                          go_simp
                          (try with_reducible rfl)
                        (try simp only [Act.put, List.getElem_toArray, List.getElem_cons_zero, List.getElem_cons_succ, List.setIfInBounds_toArray, List.set_cons_zero, List.set_cons_succ])
                        refine' wpAnyH_take (i := 2) (v := _) rfl (by kernel_rfl) (by kernel_rfl) (by kernel_rfl) (fun _ _ _ h => h) (Or.inl ⟨by rfl, ?hy1003⟩) (by assumption) ?rest1003
                        case hy1003 =>
                          intro w h
                          (try clear h)
                          go_simp
                          (try with_reducible rfl)
                        (try simp only [Act.put, List.getElem_toArray, List.getElem_cons_zero, List.getElem_cons_succ, List.setIfInBounds_toArray, List.set_cons_zero, List.set_cons_succ])
                        refine' wpAnyH_take (i := 3) (v := _) rfl (by kernel_rfl) (by kernel_rfl) (by kernel_rfl) (fun _ _ _ h => h) (Or.inl ⟨by rfl, ?hy1004⟩) (by assumption) ?rest1004
                        case hy1004 =>
                          intro w h
                          (try clear h)
                          go_simp
                          (try with_reducible rfl)
                        (try simp only [Act.put, List.getElem_toArray, List.getElem_cons_zero, List.getElem_cons_succ, List.setIfInBounds_toArray, List.set_cons_zero, List.set_cons_succ])
                        refine' wpAnyH_take (i := 4) (v := _) rfl (by kernel_rfl) (by kernel_rfl) (by kernel_rfl) (fun _ _ _ h => h) (Or.inl ⟨by rfl, ?hy1005⟩) (by assumption) ?rest1005
                        case hy1005 =>
                          intro w h
                          (try clear h)
                          go_simp
                          (try with_reducible rfl)
                        (try simp only [Act.put, List.getElem_toArray, List.getElem_cons_zero, List.getElem_cons_succ, List.setIfInBounds_toArray, List.set_cons_zero, List.set_cons_succ])
                        refine' wpAnyH_take (i := 5) (v := _) rfl (by kernel_rfl) (by kernel_rfl) (by kernel_rfl) (fun _ _ _ h => h) (Or.inl ⟨by rfl, ?hy1006⟩) (by assumption) ?rest1006
                        case hy1006 =>
                          intro w h
                          have c1 := cellR h HC1.out HNE.out
                          (try clear h)
                          go_simp
                          (try with_reducible rfl)
                        (try simp only [Act.put, List.getElem_toArray, List.getElem_cons_zero, List.getElem_cons_succ, List.setIfInBounds_toArray, List.set_cons_zero, List.set_cons_succ])
                        refine' wpAnyH_take (i := 6) (v := _) rfl (by kernel_rfl) (by kernel_rfl) (by kernel_rfl) (fun _ _ _ h => h) (Or.inl ⟨by rfl, ?hy1007⟩) (by assumption) ?rest1007
                        case hy1007 =>
                          intro w h
                          (try clear h)
                          go_simp
                          (try with_reducible rfl)
                        (try simp only [Act.put, List.getElem_toArray, List.getElem_cons_zero, List.getElem_cons_succ, List.setIfInBounds_toArray, List.set_cons_zero, List.set_cons_succ])
                        refine' wpAnyH_take (i := 7) (v := _) rfl (by kernel_rfl) (by kernel_rfl) (by kernel_rfl) (fun _ _ _ h => h) (Or.inl ⟨by rfl, ?hy1008⟩) (by assumption) ?rest1008
                        case hy1008 =>
                          intro w h
                          (try clear h)
                          go_simp
                          (try with_reducible rfl)
                        (try simp only [Act.put, List.getElem_toArray, List.getElem_cons_zero, List.getElem_cons_succ, List.setIfInBounds_toArray, List.set_cons_zero, List.set_cons_succ])
                        refine' wpAnyH_take (i := 8) (v := _) rfl (by kernel_rfl) (by kernel_rfl) (by kernel_rfl) (fun _ _ _ h => h) (Or.inl ⟨by rfl, ?hy1009⟩) (by assumption) ?rest1009
                        case hy1009 =>
                          intro w h
                          (try clear h)
                          go_simp
                          (try with_reducible rfl)
                        (try simp only [Act.put, List.getElem_toArray, List.getElem_cons_zero, List.getElem_cons_succ, List.setIfInBounds_toArray, List.set_cons_zero, List.set_cons_succ])
                        refine' wpAnyH_take (i := 9) (v := _) rfl (by kernel_rfl) (by kernel_rfl) (by kernel_rfl) (fun _ _ _ h => h) (Or.inl ⟨by rfl, ?hy1010⟩) (by assumption) ?rest1010
                        case hy1010 =>
                          intro w h
                          (try clear h)
                          go_simp
                          (try with_reducible rfl)
                        (try simp only [Act.put, List.getElem_toArray, List.getElem_cons_zero, List.getElem_cons_succ, List.setIfInBounds_toArray, List.set_cons_zero, List.set_cons_succ])
                        refine' wpAnyH_take (i := 10) (v := _) rfl (by kernel_rfl) (by kernel_rfl) (by kernel_rfl) (fun _ _ _ h => h) (Or.inl ⟨by rfl, ?hy1011⟩) (by assumption) ?rest1011
                        case hy1011 =>
                          intro w h
                          (try clear h)
                          go_simp
                          (try with_reducible rfl)
                        (try simp only [Act.put, List.getElem_toArray, List.getElem_cons_zero, List.getElem_cons_succ, List.setIfInBounds_toArray, List.set_cons_zero, List.set_cons_succ])
                        refine' wpAnyH_take (i := 11) (v := _) rfl (by kernel_rfl) (by kernel_rfl) (by kernel_rfl) (fun _ _ _ h => h) (Or.inl ⟨by rfl, ?hy1012⟩) (by assumption) ?rest1012
                        case hy1012 =>
                          intro w h
                          (try clear h)
                          go_simp
                          (try with_reducible rfl)
                        (try simp only [Act.put, List.getElem_toArray, List.getElem_cons_zero, List.getElem_cons_succ, List.setIfInBounds_toArray, List.set_cons_zero, List.set_cons_succ])
                        refine' wpAnyH_take (i := 12) (v := _) rfl (by kernel_rfl) (by kernel_rfl) (by kernel_rfl) (fun _ _ _ h => h) (Or.inl ⟨by rfl, ?hy1013⟩) (by assumption) ?rest1013
                        case hy1013 =>
                          intro w h
                          have c1 := cellR h HC1.out HNE.out
                          (try clear h)
                          go_simp
                          (try with_reducible rfl)
                        (try simp only [Act.put, List.getElem_toArray, List.getElem_cons_zero, List.getElem_cons_succ, List.setIfInBounds_toArray, List.set_cons_zero, List.set_cons_succ])
                        refine' wpAnyH_take (i := 13) (v := _) rfl (by kernel_rfl) (by kernel_rfl) (by kernel_rfl) (fun _ _ _ h => h) (Or.inl ⟨by rfl, ?hy1014⟩) (by assumption) ?rest1014
                        case hy1014 =>
                          intro w h
                          (try clear h)
                          go_simp
                          (try with_reducible rfl)
                        (try simp only [Act.put, List.getElem_toArray, List.getElem_cons_zero, List.getElem_cons_succ, List.setIfInBounds_toArray, List.set_cons_zero, List.set_cons_succ])
                        refine' wpAnyH_take (i := 14) (v := _) rfl (by kernel_rfl) (by kernel_rfl) (by kernel_rfl) (fun _ _ _ h => h) (Or.inl ⟨by rfl, ?hy1015⟩) (by assumption) ?rest1015
                        case hy1015 =>
                          intro w h
                          (try clear h)
                          go_simp
                          (try with_reducible rfl)
                        (try simp only [Act.put, List.getElem_toArray, List.getElem_cons_zero, List.getElem_cons_succ, List.setIfInBounds_toArray, List.set_cons_zero, List.set_cons_succ])
                        refine' wpAnyH_take (i := 15) (v := _) rfl (by kernel_rfl) (by kernel_rfl) (by kernel_rfl) (fun _ _ _ h => h) (Or.inl ⟨by rfl, ?hy1016⟩) (by assumption) ?rest1016
                        case hy1016 =>
                          intro w h
                          (try clear h)
                          go_simp
                          (try with_reducible rfl)
                        (try simp only [Act.put, List.getElem_toArray, List.getElem_cons_zero, List.getElem_cons_succ, List.setIfInBounds_toArray, List.set_cons_zero, List.set_cons_succ])
                        refine' wpAnyH_take (i := 16) (v := _) rfl (by kernel_rfl) (by kernel_rfl) (by kernel_rfl) (fun _ _ _ h => h) (Or.inl ⟨by rfl, ?hy1017⟩) (by assumption) ?rest1017
                        case hy1017 =>
                          intro w h
                          have c1 := cellR h HC1.out HNE.out
                          (try clear h)
                          go_simp
                          (try with_reducible rfl)
                        (try simp only [Act.put, List.getElem_toArray, List.getElem_cons_zero, List.getElem_cons_succ, List.setIfInBounds_toArray, List.set_cons_zero, List.set_cons_succ])
                        refine' wpAnyH_take (i := 17) (v := _) rfl (by kernel_rfl) (by kernel_rfl) (by kernel_rfl) (fun _ _ _ h => h) (Or.inl ⟨by rfl, ?hy1018⟩) (by assumption) ?rest1018
                        case hy1018 =>
                          intro w h
                          (try clear h)
                          go_simp
                          (try with_reducible rfl)
                        (try simp only [Act.put, List.getElem_toArray, List.getElem_cons_zero, List.getElem_cons_succ, List.setIfInBounds_toArray, List.set_cons_zero, List.set_cons_succ])
                        refine' wpAnyH_take (i := 18) (v := _) rfl (by kernel_rfl) (by kernel_rfl) (by kernel_rfl) (fun _ _ _ h => h) (Or.inl ⟨by rfl, ?hy1019⟩) (by assumption) ?rest1019
                        case hy1019 =>
                          intro w h
                          (try clear h)
                          go_simp
                          (try with_reducible rfl)
                        (try simp only [Act.put, List.getElem_toArray, List.getElem_cons_zero, List.getElem_cons_succ, List.setIfInBounds_toArray, List.set_cons_zero, List.set_cons_succ])
                        refine wpAnyH_ready (rs := [19]) (by kernel_rfl) (by simp) ?_
                        refine AllReadyH.cons rfl (fun K hK => ?_) AllReadyH.nil
                        go_simp
                        refine (phMod_any _ (by omega) (by omega) _).mono ?_
                        rintro e w' ⟨rfl, rfl⟩
                        refine hK.out _ _ hHeld (fun hHeld => ?_)
                        clear hK K
                        (try simp only [Act.put, List.getElem_toArray, List.getElem_cons_zero, List.getElem_cons_succ, List.setIfInBounds_toArray, List.set_cons_zero, List.set_cons_succ])
                        refine wpAnyH_ready (rs := [20]) (by kernel_rfl) (by simp) ?_
                        refine AllReadyH.cons rfl (fun K hK => ?_) AllReadyH.nil
                        go_simp
                        refine hK.out _ _ (grownA hHeld _) (fun hHeld => ?_)
                        clear hK K
                        (try simp only [Act.put, List.getElem_toArray, List.getElem_cons_zero, List.getElem_cons_succ, List.setIfInBounds_toArray, List.set_cons_zero, List.set_cons_succ])
                        refine wpAnyH_ready (rs := [21]) (by kernel_rfl) (by simp) ?_
                        refine AllReadyH.cons rfl (fun K hK => ?_) AllReadyH.nil
                        refine step_push rfl (.tmp 49) (.tmp 69) rfl w.heap.size _ (gen (4 * a + b) T) rfl (F1_O.out.alloc _) d1.heap.size 1 _ rfl (cell_new_one _ _ _) HGL.out w.heap.size w (F1_B.out.alloc F1_B.out.size _) (Nat.le_refl _) (by have := F1_B.out.size; simp; omega) (by have := F1_B.out.size; simp; omega) ?_
                        intro v2 w2 ho2 hb2 hg2
                        have HO2_ := Lib.hid ho2
                        have HB2_ := Lib.hid hb2
                        refine hK.out _ _ (grown_trans hHeld hg2) (fun hHeld => ?_)
                        clear ho2 hb2 hg2
                        clear hK K
                        (try simp only [Act.put, List.getElem_toArray, List.getElem_cons_zero, List.getElem_cons_succ, List.setIfInBounds_toArray, List.set_cons_zero, List.set_cons_succ])
                        refine' wpAnyH_take (i := 22) (v := _) rfl (by kernel_rfl) (by kernel_rfl) (by kernel_rfl) (fun _ _ _ h => h) (Or.inl ⟨by rfl, ?hy1020⟩) (by assumption) ?rest1020
                        case hy1020 =>
                          intro w h
                          (try clear h)
                          go_simp
                          (try with_reducible rfl)
                        (try simp only [Act.put, List.getElem_toArray, List.getElem_cons_zero, List.getElem_cons_succ, List.setIfInBounds_toArray, List.set_cons_zero, List.set_cons_succ])
                        refine wpAnyH_done (by kernel_rfl) ?_ _
                        go_wp2_with fail
                        go_roundw
                        case rel => exact ⟨b + 1, by omega, by go_num, by rw [show 4 * a + (b + 1) = 4 * a + b + 1 by omega, HGS.out]; exact HO2_.out, HB2_.out⟩
                        case measure => simp [intOf]; omega
                      · obtain rfl : b = 4 := by omega
                        go_wp2_with fail
                        go_roundw
                        case rel => exact ⟨a + 1, by omega, by go_num, by rw [show 4 * (a + 1) = 4 * a + 4 by omega]; exact HO2.out, HB2.out⟩
                        case measure => simp [intOf]; omega
                  · obtain rfl : a = 4 := by omega
                    go_wp2_with fail
                    go_returns
                    refine ⟨_, rfl, ?_, HB.out⟩
                    rw [HFz.out]
                    exact HO.out
      · have ho : frOk p k = false := by unfold frOk; rw [decide_eq_false hk]; simp
        have hf : frF p k = [] := by unfold frF; rw [ho]; rfl
        rw [ho, hf, hl]
        rw [hl] at HA
        have hk1 : (k != 1) = true := by simp; omega
        have hk3 : (k != 3) = true := by simp; omega
        clear ho hf hp hl hv hlen HV HAL hk
        go_enter Try.func25, Try.ntmps25
        go_wp2_with fail
        refine (HA.out).mono ?_
        rintro e w1 ⟨rfl, hb⟩
        go_wp2_with fail
        go_returns
        exact ⟨_, rfl, World.ownsRow_nil _ _ _ _, hb⟩
  · have ho : frOk p k = false := by unfold frOk; rw [decide_eq_false hl]; simp
    have hf : frF p k = [] := by unfold frF; rw [ho]; rfl
    rw [ho, hf]
    have hn : ¬ (p.length : Int) = 4 := by omega
    obtain ⟨N, hN⟩ : ∃ N, N = p.length := ⟨_, rfl⟩
    rw [← hN] at hn ⊢
    clear ho hf hl hv hlen HV HAL hN
    go_enter Try.func25, Try.ntmps25
    go_wp2_with fail
    go_returns
    exact ⟨_, rfl, World.ownsRow_nil _ _ _ _, Below.refl _ _⟩
end Go.Proofs.Ytjoepdflbbcliaa
