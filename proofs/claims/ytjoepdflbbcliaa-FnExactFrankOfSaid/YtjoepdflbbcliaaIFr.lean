/- The program's FrankOf. -/
import Derived.Test.YtjoepdflbbcliaaFrM
import Derived.Test.YtjoepdflbbcliaaISt
import Derived.Test.YtjoepdflbbcliaaApp
import Derived.Test.YtjoepdflbbcliaaUpI
namespace Go.Proofs.Ytjoepdflbbcliaa
set_option maxRecDepth 100000
open Go.RowKit

set_option maxRecDepth 100000 in
set_option maxHeartbeats 4000000 in
theorem ifrankOf (v : Value) (p : List Int) (k : Int) (w : World) (hv : IS w v p) (hlen : p.length ≤ 1048576) : Calls Try.prog 26 #[v, .int .i64 k] w (MakesB w (frF p k) (frOk p k)) := by
  obtain ⟨i0, hi, hz0, hz1, hz2⟩ := info_parts infoInt
  obtain ⟨a0, cap, rfl⟩ : ∃ a cap, v = .slice a p.length cap := by rcases hv with ⟨rfl, a, cap, rfl⟩ | ⟨_, b, off, cap, rfl, _⟩ <;> exact ⟨_, _, rfl⟩
  have HV := Lib.hid hv
  have HA := Lib.hid (isOrder_any _ p w hv hlen)
  by_cases hl : p.length = 4
  · cases hor : orOk p with
    | false =>
      have ho : frOk p k = false := by unfold frOk; rw [hor]; simp
      have hf : frF p k = [] := by unfold frF; rw [ho]; rfl
      rw [ho, hf]
      rw [hor] at HA
      rw [hl] at HA ⊢
      clear ho hf hor hl hv hlen HV
      go_enter Try.func26, Try.ntmps26
      go_wp2_with fail
      refine (HA.out).mono ?_
      rintro e w1 ⟨rfl, hb⟩
      go_wp2_with fail
      go_returns
      exact ⟨_, rfl, World.ownsRow_nil _ _ _ _, hb⟩
    | true =>
      rw [hor] at HA
      have hp := or_four hl hor
      by_cases hk : k = 1 ∨ k = 3
      · have HIN := Lib.hid (fun j (hj : j < 4) => fr_in hp j (by rw [hl]; exact hj))
        have HSQ := Lib.hid (fun (j a : Nat) (hj : j < 4) (ha : a < 4) => fr_sq (p.getD j 0) (fr_in hp j (by rw [hl]; exact hj)) k hk a ha)
        have ho : frOk p k = true := by unfold frOk; rw [decide_eq_true hl, decide_eq_true hk, hor]; rfl
        have hf : frF p k = gen 16 (frT p k) := by unfold frF; rw [ho]; rfl
        have HLEN := Lib.hid hl
        rw [ho, hf]
        rw [hl] at HA HV ⊢
        have HT := Lib.hid (fun (a b : Nat) (hb : b < 4) => show frT p k (4 * a + b) = (k * (a : Int) * p.getD b 0 + p.getD b 0 * p.getD b 0) % 4 by
          unfold frT
          rw [show (4 * a + b) / 4 = a by omega, show (4 * a + b) % 4 = b by omega])
        obtain ⟨T, hT⟩ : ∃ T, T = frT p k := ⟨_, rfl⟩
        rw [← hT] at HT ⊢
        clear ho hf hp hl hv hlen hT hor
        rcases hk with rfl | rfl
        · go_enter Try.func26, Try.ntmps26
          go_wp2_with fail
          refine (HA.out).mono ?_
          rintro e w1 ⟨rfl, hb⟩
          have B1 := Lib.hid hb
          clear hb
          go_wp2_with (at_make; refine wpList_make_full _ rfl _ _ 22 rfl w1.heap.size 3 i0 (.int .i64 0) 1 Try.underlying22 hi hz0 hz1 _ _ _ _ 16 rfl rfl rfl rfl ?b20 ?b30 (Nat.le_refl _) ?_)
          case b20 => rw [hz2]; omega
          case b30 => unfold maxLen; omega
          intro w0 hown0 hgrow0
          rw [made_zeros] at hown0
          have hrow0 : w0.ownsRow w.heap.size 3 1 (.slice (some ⟨w1.heap.size, 0, none⟩) 16 16) 16 ((gen 16 (upI 0 T)).map (Value.int .i64)) := by
            rw [upI_zero]
            exact rowMono (by simpa using hown0) B1.out.size
          have HO0 := Lib.hid hrow0
          have HB0 := Lib.hid (B1.out.trans (((Below.refl w1.heap.size w1).grown hgrow0 (Nat.le_refl _) (fun k h => by cases h)).mono B1.out.size))
          have HG := Lib.hid (show w.heap.size ≤ w1.heap.size from B1.out.size)
          clear hown0 hgrow0 hrow0
          obtain ⟨g, hg⟩ : ∃ g, g = w1.heap.size := ⟨_, rfl⟩
          rw [← hg] at HO0 HG ⊢
          clear hg
          go_wp2_with fail
          go_loopw [29] (fun i wr => ∃ t : Nat, t ≤ 16 ∧ i = .int .i64 t ∧ wr.ownsRow w.heap.size 3 1 (.slice (some ⟨g, 0, none⟩) 16 16) 16 ((gen 16 (upI t T)).map (Value.int .i64)) ∧ Below w.heap.size w wr) (fun i _ => 16 - (intOf i).toNat)
          case atStart => exact ⟨0, by omega, rfl, HO0.out, HB0.out⟩
          case round =>
            obtain ⟨t, ht, rfl, hown, hbel⟩ := hrel
            have HO := Lib.hid hown
            have HB := Lib.hid hbel
            clear hown hbel
            by_cases hlt : t < 16
            · have h0 : (0 : Int) ≤ (t : Int) := by omega
              have h1 : (t : Int) < 16 := by omega
              obtain ⟨a, ha⟩ : ∃ a, a = t / 4 := ⟨_, rfl⟩
              obtain ⟨b, hb⟩ : ∃ b, b = t % 4 := ⟨_, rfl⟩
              have hla : a < 4 := by omega
              have hlb : b < 4 := by omega
              have h0b : (0 : Int) ≤ (b : Int) := by omega
              have h1b : (b : Int) < 4 := by omega
              have hx := HIN.out b hlb
              have hsq := HSQ.out b a hlb hla
              have hTb := HT.out a b hlb
              rw [show 4 * a + b = t by omega] at hTb
              have hbl : b < p.length := by rw [HLEN.out]; exact hlb
              obtain ⟨x, hxd⟩ : ∃ x, x = p.getD b 0 := ⟨_, rfl⟩
              rcases HV.out with ⟨h0', _⟩ | ⟨_, b2, off, cap', hveq, _, hc⟩
              · rw [h0'] at hbl; exact absurd hbl (Nat.not_lt_zero _)
              simp only [Value.slice.injEq] at hveq
              obtain ⟨rfl, hnn, rfl⟩ := hveq
              clear hnn
              have cw := hc b hbl
              rw [← hxd] at cw hx hsq hTb
              have HC1 := Lib.hid (keepc HB.out cw)
              have HNE := Lib.hid (show (some g : Option Nat) ≠ some b2 from fun e => by have := World.block_lt_of_cell? w _ cw; have h2 : b2 < w.heap.size := this; have := HG.out; have := Option.some.inj e; omega)
              have hda : (t : Int) / 4 = (a : Int) := by rw [ha]; omega
              have hdb : (t : Int) % 4 = (b : Int) := by rw [hb]; omega
              have hset : ∀ w' : World, w'.ownsRow w.heap.size 3 1 (.slice (some ⟨g, 0, none⟩) 16 16) 16 ((gen 16 (upI t T)).map (Value.int .i64)) → (w'.setCell ⟨g, t, none⟩ (.int .i64 (T t))).ownsRow w.heap.size 3 1 (.slice (some ⟨g, 0, none⟩) 16 16) 16 ((gen 16 (upI (t + 1) T)).map (Value.int .i64)) := fun w' h => by
                have := (h.stored t (.int .i64 (T t))).1
                rwa [upI_set 16 t T hlt] at this
              have HCT := Lib.hid (fun (w' : World) (h : w'.ownsRow w.heap.size 3 1 (.slice (some ⟨g, 0, none⟩) 16 16) 16 ((gen 16 (upI t T)).map (Value.int .i64))) => show w'.cell? ⟨g, t, none⟩ = some (.int .i64 0) by
                rw [h.cellAt t (by omega)]
                simp [gen, upI, hlt])
              obtain ⟨hx1, hx2⟩ := hx
              obtain ⟨⟨q1, q2⟩, ⟨q3, q4⟩, ⟨q5, q6⟩, ⟨q8, q9⟩, ⟨q10, q11⟩, q7⟩ := hsq
              obtain ⟨⟨x1, x2⟩, ⟨x3, x4⟩, x5, x6, x7⟩ := fr_wraps2 x ⟨hx1, hx2⟩ a hla
              rw [hTb] at hset
              (try simp only [Int.one_mul] at hset q8 q9 q10 q11)
              have HSS := Lib.hid hset
              have HDA := Lib.hid hda
              have HDB := Lib.hid hdb
              clear hset hxd hTb hbl q7 hc cw hda hdb ha hb
              go_wp2_with fail
              (try rw [HDA.out]); (try rw [HDB.out])
              refine wp_region_held_drew (S := (fun w' => World.grownBy wr w' (some (g)))) (by kernel_rfl) (grownDrew (World.grownBy.refl _ _)) ?_
              obtain ⟨d1, hdw⟩ : ∃ w', w' = wr.drew := ⟨_, rfl⟩
              rw [← hdw]
              have hb : Below wr.heap.size wr d1 := by rw [hdw]; exact belowN (Below.refl _ _) 1
              have F1_O := Lib.hid (rowBelow HO.out hb)
              have F1_B := Lib.hid (joins HB.out hb)
              clear hdw hb
              intro hHeld
              refine' wpAnyH_take (i := 0) (v := _) rfl (by kernel_rfl) (by kernel_rfl) (by kernel_rfl) (fun _ _ _ h => h) (Or.inl ⟨by rfl, ?hy1⟩) (by assumption) ?rest1
              case hy1 =>
                intro w h
                (try clear h)
                go_simp
                (try with_reducible rfl)
              (try simp only [Act.put, List.getElem_toArray, List.getElem_cons_zero, List.setIfInBounds_toArray, List.set_cons_zero, List.set_cons_succ])
              refine' wpAnyH_take (i := 1) (v := _) rfl (by kernel_rfl) (by kernel_rfl) (by kernel_rfl) (fun _ _ _ h => h) (Or.inl ⟨by rfl, ?hy2⟩) (by assumption) ?rest2
              case hy2 =>
                intro w h
                (try clear h)
                go_simp
                (try with_reducible rfl)
              (try simp only [Act.put, List.getElem_toArray, List.getElem_cons_zero, List.getElem_cons_succ, List.setIfInBounds_toArray, List.set_cons_zero, List.set_cons_succ])
              refine' wpAnyH_take (i := 2) (v := _) rfl (by kernel_rfl) (by kernel_rfl) (by kernel_rfl) (fun _ _ _ h => h) (Or.inl ⟨by rfl, ?hy3⟩) (by assumption) ?rest3
              case hy3 =>
                intro w h
                (try clear h)
                go_simp
                (try with_reducible rfl)
              (try simp only [Act.put, List.getElem_toArray, List.getElem_cons_zero, List.getElem_cons_succ, List.setIfInBounds_toArray, List.set_cons_zero, List.set_cons_succ])
              refine' wpAnyH_take (i := 3) (v := _) rfl (by kernel_rfl) (by kernel_rfl) (by kernel_rfl) (fun _ _ _ h => h) (Or.inl ⟨by rfl, ?hy4⟩) (by assumption) ?rest4
              case hy4 =>
                intro w h
                (try clear h)
                go_simp
                (try with_reducible rfl)
              (try simp only [Act.put, List.getElem_toArray, List.getElem_cons_zero, List.getElem_cons_succ, List.setIfInBounds_toArray, List.set_cons_zero, List.set_cons_succ])
              refine' wpAnyH_take (i := 4) (v := _) rfl (by kernel_rfl) (by kernel_rfl) (by kernel_rfl) (fun _ _ _ h => h) (Or.inl ⟨by rfl, ?hy5⟩) (by assumption) ?rest5
              case hy5 =>
                intro w h
                (try clear h)
                go_simp
                (try with_reducible rfl)
              (try simp only [Act.put, List.getElem_toArray, List.getElem_cons_zero, List.getElem_cons_succ, List.setIfInBounds_toArray, List.set_cons_zero, List.set_cons_succ])
              refine' wpAnyH_take (i := 5) (v := _) rfl (by kernel_rfl) (by kernel_rfl) (by kernel_rfl) (fun _ _ _ h => h) (Or.inl ⟨by rfl, ?hy6⟩) (by assumption) ?rest6
              case hy6 =>
                intro w h
                (try clear h)
                go_simp
                (try with_reducible rfl)
              (try simp only [Act.put, List.getElem_toArray, List.getElem_cons_zero, List.getElem_cons_succ, List.setIfInBounds_toArray, List.set_cons_zero, List.set_cons_succ])
              refine' wpAnyH_take (i := 6) (v := _) rfl (by kernel_rfl) (by kernel_rfl) (by kernel_rfl) (fun _ _ _ h => h) (Or.inl ⟨by rfl, ?hy7⟩) (by assumption) ?rest7
              case hy7 =>
                intro w h
                (try clear h)
                go_simp
                (try with_reducible rfl)
              (try simp only [Act.put, List.getElem_toArray, List.getElem_cons_zero, List.getElem_cons_succ, List.setIfInBounds_toArray, List.set_cons_zero, List.set_cons_succ])
              refine' wpAnyH_take (i := 7) (v := _) rfl (by kernel_rfl) (by kernel_rfl) (by kernel_rfl) (fun _ _ _ h => h) (Or.inl ⟨by rfl, ?hy8⟩) (by assumption) ?rest8
              case hy8 =>
                intro w h
                (try clear h)
                go_simp
                (try with_reducible rfl)
              (try simp only [Act.put, List.getElem_toArray, List.getElem_cons_zero, List.getElem_cons_succ, List.setIfInBounds_toArray, List.set_cons_zero, List.set_cons_succ])
              refine' wpAnyH_take (i := 8) (v := _) rfl (by kernel_rfl) (by kernel_rfl) (by kernel_rfl) (fun _ _ _ h => h) (Or.inl ⟨by rfl, ?hy9⟩) (by assumption) ?rest9
              case hy9 =>
                intro w h
                have c1 := cellR h HC1.out HNE.out
                (try clear h)
                go_simp
                (try with_reducible rfl)
              (try simp only [Act.put, List.getElem_toArray, List.getElem_cons_zero, List.getElem_cons_succ, List.setIfInBounds_toArray, List.set_cons_zero, List.set_cons_succ])
              refine' wpAnyH_take (i := 9) (v := _) rfl (by kernel_rfl) (by kernel_rfl) (by kernel_rfl) (fun _ _ _ h => h) (Or.inl ⟨by rfl, ?hy10⟩) (by assumption) ?rest10
              case hy10 =>
                intro w h
                (try clear h)
                go_simp
                (try with_reducible rfl)
              (try simp only [Act.put, List.getElem_toArray, List.getElem_cons_zero, List.getElem_cons_succ, List.setIfInBounds_toArray, List.set_cons_zero, List.set_cons_succ])
              refine' wpAnyH_take (i := 10) (v := _) rfl (by kernel_rfl) (by kernel_rfl) (by kernel_rfl) (fun _ _ _ h => h) (Or.inl ⟨by rfl, ?hy11⟩) (by assumption) ?rest11
              case hy11 =>
                intro w h
                (try clear h)
                go_simp
                (try with_reducible rfl)
              (try simp only [Act.put, List.getElem_toArray, List.getElem_cons_zero, List.getElem_cons_succ, List.setIfInBounds_toArray, List.set_cons_zero, List.set_cons_succ])
              refine' wpAnyH_take (i := 11) (v := _) rfl (by kernel_rfl) (by kernel_rfl) (by kernel_rfl) (fun _ _ _ h => h) (Or.inl ⟨by rfl, ?hy12⟩) (by assumption) ?rest12
              case hy12 =>
                intro w h
                (try clear h)
                go_simp
                (try with_reducible rfl)
              (try simp only [Act.put, List.getElem_toArray, List.getElem_cons_zero, List.getElem_cons_succ, List.setIfInBounds_toArray, List.set_cons_zero, List.set_cons_succ])
              refine' wpAnyH_take (i := 12) (v := _) rfl (by kernel_rfl) (by kernel_rfl) (by kernel_rfl) (fun _ _ _ h => h) (Or.inl ⟨by rfl, ?hy13⟩) (by assumption) ?rest13
              case hy13 =>
                intro w h
                (try clear h)
                go_simp
                (try with_reducible rfl)
              (try simp only [Act.put, List.getElem_toArray, List.getElem_cons_zero, List.getElem_cons_succ, List.setIfInBounds_toArray, List.set_cons_zero, List.set_cons_succ])
              refine' wpAnyH_take (i := 13) (v := _) rfl (by kernel_rfl) (by kernel_rfl) (by kernel_rfl) (fun _ _ _ h => h) (Or.inl ⟨by rfl, ?hy14⟩) (by assumption) ?rest14
              case hy14 =>
                intro w h
                have c1 := cellR h HC1.out HNE.out
                (try clear h)
                go_simp
                (try with_reducible rfl)
              (try simp only [Act.put, List.getElem_toArray, List.getElem_cons_zero, List.getElem_cons_succ, List.setIfInBounds_toArray, List.set_cons_zero, List.set_cons_succ])
              refine' wpAnyH_take (i := 14) (v := _) rfl (by kernel_rfl) (by kernel_rfl) (by kernel_rfl) (fun _ _ _ h => h) (Or.inl ⟨by rfl, ?hy15⟩) (by assumption) ?rest15
              case hy15 =>
                intro w h
                (try clear h)
                go_simp
                (try with_reducible rfl)
              (try simp only [Act.put, List.getElem_toArray, List.getElem_cons_zero, List.getElem_cons_succ, List.setIfInBounds_toArray, List.set_cons_zero, List.set_cons_succ])
              refine' wpAnyH_take (i := 15) (v := _) rfl (by kernel_rfl) (by kernel_rfl) (by kernel_rfl) (fun _ _ _ h => h) (Or.inl ⟨by rfl, ?hy16⟩) (by assumption) ?rest16
              case hy16 =>
                intro w h
                (try clear h)
                go_simp
                (try with_reducible rfl)
              (try simp only [Act.put, List.getElem_toArray, List.getElem_cons_zero, List.getElem_cons_succ, List.setIfInBounds_toArray, List.set_cons_zero, List.set_cons_succ])
              refine' wpAnyH_take (i := 16) (v := _) rfl (by kernel_rfl) (by kernel_rfl) (by kernel_rfl) (fun _ _ _ h => h) (Or.inl ⟨by rfl, ?hy17⟩) (by assumption) ?rest17
              case hy17 =>
                intro w h
                (try clear h)
                go_simp
                (try with_reducible rfl)
              (try simp only [Act.put, List.getElem_toArray, List.getElem_cons_zero, List.getElem_cons_succ, List.setIfInBounds_toArray, List.set_cons_zero, List.set_cons_succ])
              refine' wpAnyH_take (i := 17) (v := _) rfl (by kernel_rfl) (by kernel_rfl) (by kernel_rfl) (fun _ _ _ h => h) (Or.inl ⟨by rfl, ?hy18⟩) (by assumption) ?rest18
              case hy18 =>
                intro w h
                have c1 := cellR h HC1.out HNE.out
                (try clear h)
                go_simp
                (try with_reducible rfl)
              (try simp only [Act.put, List.getElem_toArray, List.getElem_cons_zero, List.getElem_cons_succ, List.setIfInBounds_toArray, List.set_cons_zero, List.set_cons_succ])
              refine' wpAnyH_take (i := 18) (v := _) rfl (by kernel_rfl) (by kernel_rfl) (by kernel_rfl) (fun _ _ _ h => h) (Or.inl ⟨by rfl, ?hy19⟩) (by assumption) ?rest19
              case hy19 =>
                intro w h
                (try clear h)
                go_simp
                (try with_reducible rfl)
              (try simp only [Act.put, List.getElem_toArray, List.getElem_cons_zero, List.getElem_cons_succ, List.setIfInBounds_toArray, List.set_cons_zero, List.set_cons_succ])
              refine' wpAnyH_take (i := 19) (v := _) rfl (by kernel_rfl) (by kernel_rfl) (by kernel_rfl) (fun _ _ _ h => h) (Or.inl ⟨by rfl, ?hy20⟩) (by assumption) ?rest20
              case hy20 =>
                intro w h
                (try clear h)
                go_simp
                (try with_reducible rfl)
              (try simp only [Act.put, List.getElem_toArray, List.getElem_cons_zero, List.getElem_cons_succ, List.setIfInBounds_toArray, List.set_cons_zero, List.set_cons_succ])
              refine wpAnyH_ready (rs := [20]) (by kernel_rfl) (by simp) ?_
              refine AllReadyH.cons rfl (fun K hK => ?_) AllReadyH.nil
              go_simp
              refine (modulo_any _ 4 (by omega) (by omega) (by omega) (by omega) _).mono ?_
              rintro e w' ⟨rfl, rfl⟩
              refine hK.out _ _ hHeld (fun hHeld => ?_)
              clear hK K
              (try simp only [Act.put, List.getElem_toArray, List.getElem_cons_zero, List.getElem_cons_succ, List.setIfInBounds_toArray, List.set_cons_zero, List.set_cons_succ])
              refine' wpAnyH_take (i := 21) (v := _) rfl (by kernel_rfl) (by kernel_rfl) (by kernel_rfl) (fun _ _ _ h => h) (Or.inl ⟨by rfl, ?hy21⟩) (by assumption) ?rest21
              case hy21 =>
                intro w h
                (try clear h)
                go_simp
                (try with_reducible rfl)
              (try simp only [Act.put, List.getElem_toArray, List.getElem_cons_zero, List.getElem_cons_succ, List.setIfInBounds_toArray, List.set_cons_zero, List.set_cons_succ])
              refine wpAnyH_ready (rs := [22]) (by kernel_rfl) (by simp) ?_
              refine AllReadyH.cons rfl (fun K hK => ?_) AllReadyH.nil
              have c2 := HCT.out _ F1_O.out
              have f2 := F1_O.out.frozenAt t
              go_simp
              refine hK.out _ _ (grownSet hHeld _ _) (fun hHeld => ?_)
              clear hK K
              (try simp only [Act.put])
              refine wpAnyH_done (by kernel_rfl) ?_ _
              go_wp2_with fail
              go_roundw
              case rel => exact ⟨t + 1, by omega, by go_num, HSS.out _ F1_O.out, belows F1_B.out HG.out _⟩
              case measure => simp [intOf]; omega
            · obtain rfl : t = 16 := by omega
              go_wp2_with fail
              go_returns
              refine ⟨_, rfl, ?_, HB.out⟩
              have := HO.out
              rw [upI_all] at this
              unfold Own
              rw [gen_length]
              exact this
        · go_enter Try.func26, Try.ntmps26
          go_wp2_with fail
          refine (HA.out).mono ?_
          rintro e w1 ⟨rfl, hb⟩
          have B1 := Lib.hid hb
          clear hb
          go_wp2_with (at_make; refine wpList_make_full _ rfl _ _ 22 rfl w1.heap.size 3 i0 (.int .i64 0) 1 Try.underlying22 hi hz0 hz1 _ _ _ _ 16 rfl rfl rfl rfl ?b21000 ?b31000 (Nat.le_refl _) ?_)
          case b21000 => rw [hz2]; omega
          case b31000 => unfold maxLen; omega
          intro w0 hown0 hgrow0
          rw [made_zeros] at hown0
          have hrow0 : w0.ownsRow w.heap.size 3 1 (.slice (some ⟨w1.heap.size, 0, none⟩) 16 16) 16 ((gen 16 (upI 0 T)).map (Value.int .i64)) := by
            rw [upI_zero]
            exact rowMono (by simpa using hown0) B1.out.size
          have HO0 := Lib.hid hrow0
          have HB0 := Lib.hid (B1.out.trans (((Below.refl w1.heap.size w1).grown hgrow0 (Nat.le_refl _) (fun k h => by cases h)).mono B1.out.size))
          have HG := Lib.hid (show w.heap.size ≤ w1.heap.size from B1.out.size)
          clear hown0 hgrow0 hrow0
          obtain ⟨g, hg⟩ : ∃ g, g = w1.heap.size := ⟨_, rfl⟩
          rw [← hg] at HO0 HG ⊢
          clear hg
          go_wp2_with fail
          go_loopw [29] (fun i wr => ∃ t : Nat, t ≤ 16 ∧ i = .int .i64 t ∧ wr.ownsRow w.heap.size 3 1 (.slice (some ⟨g, 0, none⟩) 16 16) 16 ((gen 16 (upI t T)).map (Value.int .i64)) ∧ Below w.heap.size w wr) (fun i _ => 16 - (intOf i).toNat)
          case atStart => exact ⟨0, by omega, rfl, HO0.out, HB0.out⟩
          case round =>
            obtain ⟨t, ht, rfl, hown, hbel⟩ := hrel
            have HO := Lib.hid hown
            have HB := Lib.hid hbel
            clear hown hbel
            by_cases hlt : t < 16
            · have h0 : (0 : Int) ≤ (t : Int) := by omega
              have h1 : (t : Int) < 16 := by omega
              obtain ⟨a, ha⟩ : ∃ a, a = t / 4 := ⟨_, rfl⟩
              obtain ⟨b, hb⟩ : ∃ b, b = t % 4 := ⟨_, rfl⟩
              have hla : a < 4 := by omega
              have hlb : b < 4 := by omega
              have h0b : (0 : Int) ≤ (b : Int) := by omega
              have h1b : (b : Int) < 4 := by omega
              have hx := HIN.out b hlb
              have hsq := HSQ.out b a hlb hla
              have hTb := HT.out a b hlb
              rw [show 4 * a + b = t by omega] at hTb
              have hbl : b < p.length := by rw [HLEN.out]; exact hlb
              obtain ⟨x, hxd⟩ : ∃ x, x = p.getD b 0 := ⟨_, rfl⟩
              rcases HV.out with ⟨h0', _⟩ | ⟨_, b2, off, cap', hveq, _, hc⟩
              · rw [h0'] at hbl; exact absurd hbl (Nat.not_lt_zero _)
              simp only [Value.slice.injEq] at hveq
              obtain ⟨rfl, hnn, rfl⟩ := hveq
              clear hnn
              have cw := hc b hbl
              rw [← hxd] at cw hx hsq hTb
              have HC1 := Lib.hid (keepc HB.out cw)
              have HNE := Lib.hid (show (some g : Option Nat) ≠ some b2 from fun e => by have := World.block_lt_of_cell? w _ cw; have h2 : b2 < w.heap.size := this; have := HG.out; have := Option.some.inj e; omega)
              have hda : (t : Int) / 4 = (a : Int) := by rw [ha]; omega
              have hdb : (t : Int) % 4 = (b : Int) := by rw [hb]; omega
              have hset : ∀ w' : World, w'.ownsRow w.heap.size 3 1 (.slice (some ⟨g, 0, none⟩) 16 16) 16 ((gen 16 (upI t T)).map (Value.int .i64)) → (w'.setCell ⟨g, t, none⟩ (.int .i64 (T t))).ownsRow w.heap.size 3 1 (.slice (some ⟨g, 0, none⟩) 16 16) 16 ((gen 16 (upI (t + 1) T)).map (Value.int .i64)) := fun w' h => by
                have := (h.stored t (.int .i64 (T t))).1
                rwa [upI_set 16 t T hlt] at this
              have HCT := Lib.hid (fun (w' : World) (h : w'.ownsRow w.heap.size 3 1 (.slice (some ⟨g, 0, none⟩) 16 16) 16 ((gen 16 (upI t T)).map (Value.int .i64))) => show w'.cell? ⟨g, t, none⟩ = some (.int .i64 0) by
                rw [h.cellAt t (by omega)]
                simp [gen, upI, hlt])
              obtain ⟨hx1, hx2⟩ := hx
              obtain ⟨⟨q1, q2⟩, ⟨q3, q4⟩, ⟨q5, q6⟩, ⟨q8, q9⟩, ⟨q10, q11⟩, q7⟩ := hsq
              obtain ⟨⟨x1, x2⟩, ⟨x3, x4⟩, x5, x6, x7⟩ := fr_wraps2 x ⟨hx1, hx2⟩ a hla
              rw [hTb] at hset
              (try simp only [Int.one_mul] at hset q8 q9 q10 q11)
              have HSS := Lib.hid hset
              have HDA := Lib.hid hda
              have HDB := Lib.hid hdb
              clear hset hxd hTb hbl q7 hc cw hda hdb ha hb
              go_wp2_with fail
              (try rw [HDA.out]); (try rw [HDB.out])
              refine wp_region_held_drew (S := (fun w' => World.grownBy wr w' (some (g)))) (by kernel_rfl) (grownDrew (World.grownBy.refl _ _)) ?_
              obtain ⟨d1, hdw⟩ : ∃ w', w' = wr.drew := ⟨_, rfl⟩
              rw [← hdw]
              have hb : Below wr.heap.size wr d1 := by rw [hdw]; exact belowN (Below.refl _ _) 1
              have F1_O := Lib.hid (rowBelow HO.out hb)
              have F1_B := Lib.hid (joins HB.out hb)
              clear hdw hb
              intro hHeld
              refine' wpAnyH_take (i := 0) (v := _) rfl (by kernel_rfl) (by kernel_rfl) (by kernel_rfl) (fun _ _ _ h => h) (Or.inl ⟨by rfl, ?hy1001⟩) (by assumption) ?rest1001
              case hy1001 =>
                intro w h
                (try clear h)
                go_simp
                (try with_reducible rfl)
              (try simp only [Act.put, List.getElem_toArray, List.getElem_cons_zero, List.setIfInBounds_toArray, List.set_cons_zero, List.set_cons_succ])
              refine' wpAnyH_take (i := 1) (v := _) rfl (by kernel_rfl) (by kernel_rfl) (by kernel_rfl) (fun _ _ _ h => h) (Or.inl ⟨by rfl, ?hy1002⟩) (by assumption) ?rest1002
              case hy1002 =>
                intro w h
                (try clear h)
                go_simp
                (try with_reducible rfl)
              (try simp only [Act.put, List.getElem_toArray, List.getElem_cons_zero, List.getElem_cons_succ, List.setIfInBounds_toArray, List.set_cons_zero, List.set_cons_succ])
              refine' wpAnyH_take (i := 2) (v := _) rfl (by kernel_rfl) (by kernel_rfl) (by kernel_rfl) (fun _ _ _ h => h) (Or.inl ⟨by rfl, ?hy1003⟩) (by assumption) ?rest1003
              case hy1003 =>
                intro w h
                (try clear h)
                go_simp
                (try with_reducible rfl)
              (try simp only [Act.put, List.getElem_toArray, List.getElem_cons_zero, List.getElem_cons_succ, List.setIfInBounds_toArray, List.set_cons_zero, List.set_cons_succ])
              refine' wpAnyH_take (i := 3) (v := _) rfl (by kernel_rfl) (by kernel_rfl) (by kernel_rfl) (fun _ _ _ h => h) (Or.inl ⟨by rfl, ?hy1004⟩) (by assumption) ?rest1004
              case hy1004 =>
                intro w h
                (try clear h)
                go_simp
                (try with_reducible rfl)
              (try simp only [Act.put, List.getElem_toArray, List.getElem_cons_zero, List.getElem_cons_succ, List.setIfInBounds_toArray, List.set_cons_zero, List.set_cons_succ])
              refine' wpAnyH_take (i := 4) (v := _) rfl (by kernel_rfl) (by kernel_rfl) (by kernel_rfl) (fun _ _ _ h => h) (Or.inl ⟨by rfl, ?hy1005⟩) (by assumption) ?rest1005
              case hy1005 =>
                intro w h
                (try clear h)
                go_simp
                (try with_reducible rfl)
              (try simp only [Act.put, List.getElem_toArray, List.getElem_cons_zero, List.getElem_cons_succ, List.setIfInBounds_toArray, List.set_cons_zero, List.set_cons_succ])
              refine' wpAnyH_take (i := 5) (v := _) rfl (by kernel_rfl) (by kernel_rfl) (by kernel_rfl) (fun _ _ _ h => h) (Or.inl ⟨by rfl, ?hy1006⟩) (by assumption) ?rest1006
              case hy1006 =>
                intro w h
                (try clear h)
                go_simp
                (try with_reducible rfl)
              (try simp only [Act.put, List.getElem_toArray, List.getElem_cons_zero, List.getElem_cons_succ, List.setIfInBounds_toArray, List.set_cons_zero, List.set_cons_succ])
              refine' wpAnyH_take (i := 6) (v := _) rfl (by kernel_rfl) (by kernel_rfl) (by kernel_rfl) (fun _ _ _ h => h) (Or.inl ⟨by rfl, ?hy1007⟩) (by assumption) ?rest1007
              case hy1007 =>
                intro w h
                (try clear h)
                go_simp
                (try with_reducible rfl)
              (try simp only [Act.put, List.getElem_toArray, List.getElem_cons_zero, List.getElem_cons_succ, List.setIfInBounds_toArray, List.set_cons_zero, List.set_cons_succ])
              refine' wpAnyH_take (i := 7) (v := _) rfl (by kernel_rfl) (by kernel_rfl) (by kernel_rfl) (fun _ _ _ h => h) (Or.inl ⟨by rfl, ?hy1008⟩) (by assumption) ?rest1008
              case hy1008 =>
                intro w h
                (try clear h)
                go_simp
                (try with_reducible rfl)
              (try simp only [Act.put, List.getElem_toArray, List.getElem_cons_zero, List.getElem_cons_succ, List.setIfInBounds_toArray, List.set_cons_zero, List.set_cons_succ])
              refine' wpAnyH_take (i := 8) (v := _) rfl (by kernel_rfl) (by kernel_rfl) (by kernel_rfl) (fun _ _ _ h => h) (Or.inl ⟨by rfl, ?hy1009⟩) (by assumption) ?rest1009
              case hy1009 =>
                intro w h
                have c1 := cellR h HC1.out HNE.out
                (try clear h)
                go_simp
                (try with_reducible rfl)
              (try simp only [Act.put, List.getElem_toArray, List.getElem_cons_zero, List.getElem_cons_succ, List.setIfInBounds_toArray, List.set_cons_zero, List.set_cons_succ])
              refine' wpAnyH_take (i := 9) (v := _) rfl (by kernel_rfl) (by kernel_rfl) (by kernel_rfl) (fun _ _ _ h => h) (Or.inl ⟨by rfl, ?hy1010⟩) (by assumption) ?rest1010
              case hy1010 =>
                intro w h
                (try clear h)
                go_simp
                (try with_reducible rfl)
              (try simp only [Act.put, List.getElem_toArray, List.getElem_cons_zero, List.getElem_cons_succ, List.setIfInBounds_toArray, List.set_cons_zero, List.set_cons_succ])
              refine' wpAnyH_take (i := 10) (v := _) rfl (by kernel_rfl) (by kernel_rfl) (by kernel_rfl) (fun _ _ _ h => h) (Or.inl ⟨by rfl, ?hy1011⟩) (by assumption) ?rest1011
              case hy1011 =>
                intro w h
                (try clear h)
                go_simp
                (try with_reducible rfl)
              (try simp only [Act.put, List.getElem_toArray, List.getElem_cons_zero, List.getElem_cons_succ, List.setIfInBounds_toArray, List.set_cons_zero, List.set_cons_succ])
              refine' wpAnyH_take (i := 11) (v := _) rfl (by kernel_rfl) (by kernel_rfl) (by kernel_rfl) (fun _ _ _ h => h) (Or.inl ⟨by rfl, ?hy1012⟩) (by assumption) ?rest1012
              case hy1012 =>
                intro w h
                (try clear h)
                go_simp
                (try with_reducible rfl)
              (try simp only [Act.put, List.getElem_toArray, List.getElem_cons_zero, List.getElem_cons_succ, List.setIfInBounds_toArray, List.set_cons_zero, List.set_cons_succ])
              refine' wpAnyH_take (i := 12) (v := _) rfl (by kernel_rfl) (by kernel_rfl) (by kernel_rfl) (fun _ _ _ h => h) (Or.inl ⟨by rfl, ?hy1013⟩) (by assumption) ?rest1013
              case hy1013 =>
                intro w h
                (try clear h)
                go_simp
                (try with_reducible rfl)
              (try simp only [Act.put, List.getElem_toArray, List.getElem_cons_zero, List.getElem_cons_succ, List.setIfInBounds_toArray, List.set_cons_zero, List.set_cons_succ])
              refine' wpAnyH_take (i := 13) (v := _) rfl (by kernel_rfl) (by kernel_rfl) (by kernel_rfl) (fun _ _ _ h => h) (Or.inl ⟨by rfl, ?hy1014⟩) (by assumption) ?rest1014
              case hy1014 =>
                intro w h
                have c1 := cellR h HC1.out HNE.out
                (try clear h)
                go_simp
                (try with_reducible rfl)
              (try simp only [Act.put, List.getElem_toArray, List.getElem_cons_zero, List.getElem_cons_succ, List.setIfInBounds_toArray, List.set_cons_zero, List.set_cons_succ])
              refine' wpAnyH_take (i := 14) (v := _) rfl (by kernel_rfl) (by kernel_rfl) (by kernel_rfl) (fun _ _ _ h => h) (Or.inl ⟨by rfl, ?hy1015⟩) (by assumption) ?rest1015
              case hy1015 =>
                intro w h
                (try clear h)
                go_simp
                (try with_reducible rfl)
              (try simp only [Act.put, List.getElem_toArray, List.getElem_cons_zero, List.getElem_cons_succ, List.setIfInBounds_toArray, List.set_cons_zero, List.set_cons_succ])
              refine' wpAnyH_take (i := 15) (v := _) rfl (by kernel_rfl) (by kernel_rfl) (by kernel_rfl) (fun _ _ _ h => h) (Or.inl ⟨by rfl, ?hy1016⟩) (by assumption) ?rest1016
              case hy1016 =>
                intro w h
                (try clear h)
                go_simp
                (try with_reducible rfl)
              (try simp only [Act.put, List.getElem_toArray, List.getElem_cons_zero, List.getElem_cons_succ, List.setIfInBounds_toArray, List.set_cons_zero, List.set_cons_succ])
              refine' wpAnyH_take (i := 16) (v := _) rfl (by kernel_rfl) (by kernel_rfl) (by kernel_rfl) (fun _ _ _ h => h) (Or.inl ⟨by rfl, ?hy1017⟩) (by assumption) ?rest1017
              case hy1017 =>
                intro w h
                (try clear h)
                go_simp
                (try with_reducible rfl)
              (try simp only [Act.put, List.getElem_toArray, List.getElem_cons_zero, List.getElem_cons_succ, List.setIfInBounds_toArray, List.set_cons_zero, List.set_cons_succ])
              refine' wpAnyH_take (i := 17) (v := _) rfl (by kernel_rfl) (by kernel_rfl) (by kernel_rfl) (fun _ _ _ h => h) (Or.inl ⟨by rfl, ?hy1018⟩) (by assumption) ?rest1018
              case hy1018 =>
                intro w h
                have c1 := cellR h HC1.out HNE.out
                (try clear h)
                go_simp
                (try with_reducible rfl)
              (try simp only [Act.put, List.getElem_toArray, List.getElem_cons_zero, List.getElem_cons_succ, List.setIfInBounds_toArray, List.set_cons_zero, List.set_cons_succ])
              refine' wpAnyH_take (i := 18) (v := _) rfl (by kernel_rfl) (by kernel_rfl) (by kernel_rfl) (fun _ _ _ h => h) (Or.inl ⟨by rfl, ?hy1019⟩) (by assumption) ?rest1019
              case hy1019 =>
                intro w h
                (try clear h)
                go_simp
                (try with_reducible rfl)
              (try simp only [Act.put, List.getElem_toArray, List.getElem_cons_zero, List.getElem_cons_succ, List.setIfInBounds_toArray, List.set_cons_zero, List.set_cons_succ])
              refine' wpAnyH_take (i := 19) (v := _) rfl (by kernel_rfl) (by kernel_rfl) (by kernel_rfl) (fun _ _ _ h => h) (Or.inl ⟨by rfl, ?hy1020⟩) (by assumption) ?rest1020
              case hy1020 =>
                intro w h
                (try clear h)
                go_simp
                (try with_reducible rfl)
              (try simp only [Act.put, List.getElem_toArray, List.getElem_cons_zero, List.getElem_cons_succ, List.setIfInBounds_toArray, List.set_cons_zero, List.set_cons_succ])
              refine wpAnyH_ready (rs := [20]) (by kernel_rfl) (by simp) ?_
              refine AllReadyH.cons rfl (fun K hK => ?_) AllReadyH.nil
              go_simp
              refine (modulo_any _ 4 (by omega) (by omega) (by omega) (by omega) _).mono ?_
              rintro e w' ⟨rfl, rfl⟩
              refine hK.out _ _ hHeld (fun hHeld => ?_)
              clear hK K
              (try simp only [Act.put, List.getElem_toArray, List.getElem_cons_zero, List.getElem_cons_succ, List.setIfInBounds_toArray, List.set_cons_zero, List.set_cons_succ])
              refine' wpAnyH_take (i := 21) (v := _) rfl (by kernel_rfl) (by kernel_rfl) (by kernel_rfl) (fun _ _ _ h => h) (Or.inl ⟨by rfl, ?hy1021⟩) (by assumption) ?rest1021
              case hy1021 =>
                intro w h
                (try clear h)
                go_simp
                (try with_reducible rfl)
              (try simp only [Act.put, List.getElem_toArray, List.getElem_cons_zero, List.getElem_cons_succ, List.setIfInBounds_toArray, List.set_cons_zero, List.set_cons_succ])
              refine wpAnyH_ready (rs := [22]) (by kernel_rfl) (by simp) ?_
              refine AllReadyH.cons rfl (fun K hK => ?_) AllReadyH.nil
              have c2 := HCT.out _ F1_O.out
              have f2 := F1_O.out.frozenAt t
              go_simp
              refine hK.out _ _ (grownSet hHeld _ _) (fun hHeld => ?_)
              clear hK K
              (try simp only [Act.put])
              refine wpAnyH_done (by kernel_rfl) ?_ _
              go_wp2_with fail
              go_roundw
              case rel => exact ⟨t + 1, by omega, by go_num, HSS.out _ F1_O.out, belows F1_B.out HG.out _⟩
              case measure => simp [intOf]; omega
            · obtain rfl : t = 16 := by omega
              go_wp2_with fail
              go_returns
              refine ⟨_, rfl, ?_, HB.out⟩
              have := HO.out
              rw [upI_all] at this
              unfold Own
              rw [gen_length]
              exact this
      · have ho : frOk p k = false := by unfold frOk; rw [decide_eq_false hk]; simp
        have hf : frF p k = [] := by unfold frF; rw [ho]; rfl
        rw [ho, hf, hl]
        rw [hl] at HA
        have hk1 : (k != 1) = true := by simp; omega
        have hk3 : (k != 3) = true := by simp; omega
        clear ho hf hp hl hv hlen HV hk hor
        go_enter Try.func26, Try.ntmps26
        go_wp2_with fail
        refine (HA.out).mono ?_
        rintro e w1 ⟨rfl, hb⟩
        go_wp2_with fail
        go_returns
        exact ⟨_, rfl, World.ownsRow_nil _ _ _ _, hb⟩
  · have ho : frOk p k = false := by unfold frOk; rw [decide_eq_false hl]; simp
    have hf : frF p k = [] := by unfold frF; rw [ho]; rfl
    rw [ho, hf]
    have hn : ¬ (p.length : Int) = 4 := by omega
    obtain ⟨N, hN⟩ : ∃ N, N = p.length := ⟨_, rfl⟩
    rw [← hN] at hn ⊢
    clear ho hf hl hv hlen HV hN HA
    go_enter Try.func26, Try.ntmps26
    go_wp2_with fail
    go_returns
    exact ⟨_, rfl, World.ownsRow_nil _ _ _ _, Below.refl _ _⟩
end Go.Proofs.Ytjoepdflbbcliaa
