/- The program's FourierMatrix. -/
import Derived.Test.YtbppbkoppbnodaaIMt
namespace Go.Proofs.Ytbppbkoppbnodaa
set_option maxRecDepth 100000
open Go.RowKit

theorem grownCell' {w0 w : World} {g : Nat} (h : w0.grownBy w (some g)) (o : Nat) (v : Value) : w0.grownBy (w.setCell ⟨g, o, none⟩ v) (some g) :=
  ⟨h.os, h.tape, h.output, by simpa using h.size, fun k hk hne => (heap_setCell_other w ⟨g, o, none⟩ k v (fun e => hne (by rw [e]))).trans (h.block k hk hne)⟩
theorem wrapF (z : Int) (h : -1000000 ≤ z ∧ z ≤ 1000000) : wrap64 z = z := IntWalk.wrap64_in z ⟨by omega, by omega⟩
theorem wrapFI (z : Int) (h : -1000000 ≤ z ∧ z ≤ 1000000) : IntKind.i64.wrap z = z := IntWalk.i64_in z ⟨by omega, by omega⟩
theorem fu_wraps (a b X Y : Nat) (ha : a < 4) (hx : (4 : Int) * (a : Int) * (b : Int) = (X : Int)) (hX : X ≤ 36) (hY : Y ≤ 36) :
    wrap64 ((4 : Int) * (a : Int)) = (4 : Int) * (a : Int) ∧ wrap64 ((4 : Int) * (a : Int) * (b : Int)) = (X : Int) ∧ wrap64 (Y : Int) = (Y : Int) ∧ IntKind.i64.wrap ((4 : Int) * (a : Int)) = (4 : Int) * (a : Int) ∧ IntKind.i64.wrap ((4 : Int) * (a : Int) * (b : Int)) = (X : Int) ∧ IntKind.i64.wrap (Y : Int) = (Y : Int) ∧ IntKind.i64.wrap (X : Int) = (X : Int) := by
  rw [hx]
  clear hx
  exact ⟨wrapF ((4 : Int) * (a : Int)) (by omega), wrapF (X : Int) (by omega), wrapF (Y : Int) (by omega), wrapFI ((4 : Int) * (a : Int)) (by omega), wrapFI (X : Int) (by omega), wrapFI (Y : Int) (by omega), wrapFI (X : Int) (by omega)⟩
theorem fu_parts {n : Int} (h : fuOk n = true) : n = 1 ∨ n = 2 ∨ n = 4 := of_decide_eq_true h
theorem fuG_ph (n i j : Nat) : 0 ≤ fuG n i j ∧ fuG n i j ≤ 3 := by unfold fuG; omega
def fuF (n : Nat) : Nat → Nat × Nat := fun c => (f32of (vx (fuG n (c / 8) (c % 8))), f32of (vy (fuG n (c / 8) (c % 8))))
theorem fu_MxR (n : Nat) (h : n ≤ 8) : MxR (sqV n (fuF n) V0) n (fuG n) := by
  refine sq_MxR h (fun i j hi hj => ?_)
  unfold fuF
  rw [show (i * 8 + j) / 8 = i by omega, show (i * 8 + j) % 8 = j by omega]
  have hp := fuG_ph n i j
  exact isV_of _ hp.1 hp.2
set_option maxRecDepth 100000 in
set_option maxHeartbeats 8000000 in
theorem ifourierMatrix (n : Int) (w : World) : Calls Try.prog 12 #[.int .i64 n] w (MakesRB w (fuA n) (fuOk n)) := by
  cases hok : fuOk n with
  | false =>
    have hA : fuA n = [] := by unfold fuA; rw [hok]; rfl
    have hn : ¬ (n = 1 ∨ n = 2 ∨ n = 4) := of_decide_eq_false hok
    rw [hA]
    clear hok hA
    have h1 : (n != 1) = true := by simp; omega
    have h2 : (n != 2) = true := by simp; omega
    have h4 : (n != 4) = true := by simp; omega
    clear hn
    go_enter Try.func12, Try.ntmps12
    go_wp2_with fail
    go_returns
    exact ⟨_, rfl, OwnR.nil _ _, by go_grown⟩
  | true =>
    have hn := fu_parts hok
    obtain ⟨q, rfl⟩ := Int.eq_ofNat_of_zero_le (show 0 ≤ n by omega)
    have hq : q = 1 ∨ q = 2 ∨ q = 4 := by omega
    have hA : fuA (q : Int) = genR q (fun i => gen q (fuG q i)) := by unfold fuA; rw [hok]; rfl
    rw [hA]
    have hq8 : q ≤ 8 := by omega
    have hLs := lists_any _ _ _ (fu_MxR q hq8)
    rw [decide_eq_true (show 1 ≤ q by omega)] at hLs
    have HLS := Lib.hid hLs
    have HBU := Lib.hid (builtMx (q : Int))
    have ZZ := Lib.hid zeroMx
    obtain ⟨G, hG⟩ : ∃ G : Nat → Nat → Int, G = fuG q := ⟨_, rfl⟩
    have HGP := Lib.hid (show ∀ a b, 0 ≤ G a b ∧ G a b ≤ 3 by rw [hG]; exact fuG_ph q)
    have HGD := Lib.hid (show ∀ a b : Nat, (((4 * a * b / q : Nat) : Nat) : Int) % 4 = G a b from fun a b => by rw [hG]; rfl)
    obtain ⟨F, hF⟩ : ∃ F : Nat → Nat × Nat, F = fuF q := ⟨_, rfl⟩
    have HF := Lib.hid (fun a b (hb : b < 8) => show F (a * 8 + b) = (f32of (vx (G a b)), f32of (vy (G a b))) by
      rw [hF, hG]; unfold fuF; rw [show (a * 8 + b) / 8 = a by omega, show (a * 8 + b) % 8 = b by omega])
    rw [← hG] at HLS ⊢
    rw [← hF] at HLS
    clear hok hn hA hLs hG hF
    have hq4 : q ≤ 4 := by omega
    have hq1 : 1 ≤ q := by omega
    have HQ := Lib.hid hq
    clear hq
    have hcnd : ((q : Int) != 1) = false ∨ (((q : Int) != 1) = true ∧ ((q : Int) != 2) = false) ∨ (((q : Int) != 1) = true ∧ ((q : Int) != 2) = true ∧ ((q : Int) != 4) = false) := by
      rcases HQ.out with rfl | rfl | rfl
      · left; rfl
      · right; left; exact ⟨rfl, rfl⟩
      · right; right; exact ⟨rfl, rfl, rfl⟩
    rcases hcnd with e1 | ⟨e1, e2⟩ | ⟨e1, e2, e3⟩
    · skip
      have B0 := Lib.hid (Below.refl w.heap.size w)
      go_enter Try.func12, Try.ntmps12
      go_wp2_with (first
        | ((with_reducible refine at_op (Op.build 41 #[(1, .tmp 17)]) ?_); refine wpList_build_row rfl 41 [(1, .tmp 17)] rfl (mxC V0 q) HBU.out ?_)
        | ((with_reducible refine at_op (d := some 4) (Op.alloc 41) ?_); refine wpList_alloc_row rfl 41 rfl (mxC V0 0) (fun w => ZZ.out w) ?_; intro w1 hr hb hz; have R1_m := Lib.hid hr; have B1 := Lib.hid (joins B0.out hb); have L1_m := Lib.hid (show w.heap.size ≤ w.heap.size from B0.out.size); clear hr hb hz)
        | ((with_reducible refine at_op (Op.store 41 (.tmp 4) (.tmp 18)) ?_); refine wpList_put_row rfl 41 (.tmp 4) (.tmp 18) rfl (w.heap.size) (mxC V0 q) rfl rfl 41 (mxC V0 0) R1_m.out 65 infoMx (mxC_size _ _) (mxC_size _ _) (mxC_one _ _) w.heap.size w B1.out L1_m.out ?_; intro w2 hr hs hb; have R2_m := Lib.hid hr; have B2 := Lib.hid hb; clear hr hs hb))
      have LM := L1_m
      have RM0 := R2_m
      have BB0 := B2
      go_loopw [20] (fun i wr => ∃ a : Nat, a ≤ q ∧ i = .int .i64 a ∧ wr.heap[w.heap.size]? = some (.cells (mxC (pgR q a 0 F V0) q) 41 (0, 0)) ∧ Below w.heap.size w wr) (fun i _ => q - (intOf i).toNat)
      case atStart => exact ⟨0, Nat.zero_le _, rfl, by rw [pgR_start]; exact RM0.out, BB0.out⟩
      case round =>
        obtain ⟨a, ha, rfl, hm, hbel⟩ := hrel
        have RM := Lib.hid hm
        have BR := Lib.hid hbel
        clear hm hbel
        generalize hwo : wr = wo at *
        clear hwo
        by_cases hlt : a < q
        · have h0 : (0 : Int) ≤ (a : Int) := by omega
          have h1 : (a : Int) < (q : Int) := by omega
          go_wp2_with fail
          go_loopw [24] (fun i wr => ∃ b : Nat, b ≤ q ∧ i = .int .i64 b ∧ wr.heap[w.heap.size]? = some (.cells (mxC (pgR q a b F V0) q) 41 (0, 0)) ∧ Below w.heap.size w wr) (fun i _ => q - (intOf i).toNat)
          case atStart => exact ⟨0, Nat.zero_le _, rfl, RM.out, BR.out⟩
          case round =>
            obtain ⟨b, hb, rfl, hm, hbel⟩ := hrel
            have RM2 := Lib.hid hm
            have BR2 := Lib.hid hbel
            clear hm hbel
            by_cases hlb : b < q
            · have h0b : (0 : Int) ≤ (b : Int) := by omega
              have h1b : (b : Int) < (q : Int) := by omega
              have h8a : (a : Int) < 4 := by omega
              have h8b : (b : Int) < 4 := by omega
              have hFb := HF.out a b (by omega)
              have hab : a * b ≤ 3 * 3 := Nat.mul_le_mul (by omega) (by omega)
              have hx : (4 : Int) * (a : Int) * (b : Int) = ((4 * a * b : Nat) : Int) := by push_cast; rfl
              have hx1 : 4 * a * b ≤ 36 := by rw [Nat.mul_assoc]; omega
              have hgd := HGD.out a b
              have hgp := HGP.out a b
              obtain ⟨X, hX⟩ : ∃ X, X = 4 * a * b := ⟨_, rfl⟩
              rw [← hX] at hx hx1 hgd
              obtain ⟨K, hK⟩ : ∃ K, K = G a b := ⟨_, rfl⟩
              rw [← hK] at hgd hgp hFb
              have hdv : X / q ≤ 36 := Nat.le_trans (Nat.div_le_self _ _) hx1
              have hdi : (X : Int) / (q : Int) = ((X / q : Nat) : Int) := by push_cast; rfl
              have hdt : (X : Int).tdiv (q : Int) = ((X / q : Nat) : Int) := rfl
              obtain ⟨Y, hY⟩ : ∃ Y, Y = X / q := ⟨_, rfl⟩
              rw [← hY] at hgd hdv hdi hdt
              have hmo := fun w => modulo_any (Y : Int) 4 (by omega) (by omega) (by omega) (by omega) w
              rw [hgd] at hmo
              have HMO := Lib.hid hmo
              have HVO := Lib.hid (valueOf_any K hgp.1 hgp.2)
              have hset := fun (w' : World) (h : w'.heap[w.heap.size]? = some (.cells (mxC (pgR q a b F V0) q) 41 (0, 0))) => set_row h (c := a * 8 + b) (by omega) (F (a * 8 + b))
              rw [pgR_step q a b F V0 hq8 hlt hlb] at hset
              rw [hFb] at hset
              obtain ⟨x, hxx⟩ : ∃ x, x = f32of (vx K) := ⟨_, rfl⟩
              obtain ⟨y, hyy⟩ : ∃ x, x = f32of (vy K) := ⟨_, rfl⟩
              rw [← hxx, ← hyy] at hset HVO
              have HSET := Lib.hid hset
              obtain ⟨w1', w2', w3', w4', w5', w6', w7'⟩ := fu_wraps a b X Y (by omega) hx hx1 hdv
              have hq0 : ¬ q = 0 := by omega
              have h9a : (a : Int) < 8 := by omega
              have h9b : (b : Int) < 8 := by omega
              clear hset hFb hxx hyy hK hmo hgd hX hY hab
              have hst := @store_complex Try.prog
              go_wp2_with fail
              go_wp2_with fail
              refine wp_region_held_drew (S := (fun w' => World.grownBy wr w' (some (w.heap.size)))) (by kernel_rfl) (grownDrew (World.grownBy.refl _ _)) ?_
              obtain ⟨w31, hdw⟩ : ∃ w', w' = wr.drew := ⟨_, rfl⟩
              rw [← hdw]
              have hb : Below wr.heap.size wr w31 := by rw [hdw]; exact belowN (Below.refl _ _) 1
              have R31_m := Lib.hid (rowB RM2.out hb)
              have B31 := Lib.hid (joins BR2.out hb)
              clear hdw hb
              intro hHeld
              refine' wpAnyH_take (i := 0) (v := _) rfl (by kernel_rfl) (by kernel_rfl) (by kernel_rfl) (fun _ _ _ h => h) (Or.inl ⟨by rfl, ?hy1_1⟩) (by assumption) ?rest1_1
              case hy1_1 =>
                intro w h
                (try clear h)
                go_simp
                (try with_reducible rfl)
              (try simp only [Act.put, List.getElem_toArray, List.getElem_cons_zero, List.setIfInBounds_toArray, List.set_cons_zero, List.set_cons_succ])
              refine' wpAnyH_take (i := 1) (v := _) rfl (by kernel_rfl) (by kernel_rfl) (by kernel_rfl) (fun _ _ _ h => h) (Or.inl ⟨by rfl, ?hy2_1⟩) (by assumption) ?rest2_1
              case hy2_1 =>
                intro w h
                (try clear h)
                go_simp
                (try with_reducible rfl)
              (try simp only [Act.put, List.getElem_toArray, List.getElem_cons_zero, List.getElem_cons_succ, List.setIfInBounds_toArray, List.set_cons_zero, List.set_cons_succ])
              refine' wpAnyH_take (i := 2) (v := _) rfl (by kernel_rfl) (by kernel_rfl) (by kernel_rfl) (fun _ _ _ h => h) (Or.inl ⟨by rfl, ?hy3_1⟩) (by assumption) ?rest3_1
              case hy3_1 =>
                intro w h
                (try clear h)
                go_simp
                (try with_reducible rfl)
              (try simp only [Act.put, List.getElem_toArray, List.getElem_cons_zero, List.getElem_cons_succ, List.setIfInBounds_toArray, List.set_cons_zero, List.set_cons_succ])
              refine' wpAnyH_take (i := 3) (v := _) rfl (by kernel_rfl) (by kernel_rfl) (by kernel_rfl) (fun _ _ _ h => h) (Or.inl ⟨by rfl, ?hy4_1⟩) (by assumption) ?rest4_1
              case hy4_1 =>
                intro w h
                (try clear h)
                go_simp
                (try with_reducible rfl)
              (try simp only [Act.put, List.getElem_toArray, List.getElem_cons_zero, List.getElem_cons_succ, List.setIfInBounds_toArray, List.set_cons_zero, List.set_cons_succ])
              refine' wpAnyH_take (i := 4) (v := _) rfl (by kernel_rfl) (by kernel_rfl) (by kernel_rfl) (fun _ _ _ h => h) (Or.inl ⟨by rfl, ?hy5_1⟩) (by assumption) ?rest5_1
              case hy5_1 =>
                intro w h
                (try clear h)
                go_simp
                (try with_reducible rfl)
              (try simp only [Act.put, List.getElem_toArray, List.getElem_cons_zero, List.getElem_cons_succ, List.setIfInBounds_toArray, List.set_cons_zero, List.set_cons_succ])
              refine' wpAnyH_take (i := 5) (v := _) rfl (by kernel_rfl) (by kernel_rfl) (by kernel_rfl) (fun _ _ _ h => h) (Or.inl ⟨by rfl, ?hy6_1⟩) (by assumption) ?rest6_1
              case hy6_1 =>
                intro w h
                (try clear h)
                go_simp
                (try with_reducible rfl)
              (try simp only [Act.put, List.getElem_toArray, List.getElem_cons_zero, List.getElem_cons_succ, List.setIfInBounds_toArray, List.set_cons_zero, List.set_cons_succ])
              refine' wpAnyH_take (i := 6) (v := _) rfl (by kernel_rfl) (by kernel_rfl) (by kernel_rfl) (fun _ _ _ h => h) (Or.inl ⟨by rfl, ?hy7_1⟩) (by assumption) ?rest7_1
              case hy7_1 =>
                intro w h
                (try clear h)
                go_simp
                (try with_reducible rfl)
              (try simp only [Act.put, List.getElem_toArray, List.getElem_cons_zero, List.getElem_cons_succ, List.setIfInBounds_toArray, List.set_cons_zero, List.set_cons_succ])
              refine' wpAnyH_take (i := 7) (v := _) rfl (by kernel_rfl) (by kernel_rfl) (by kernel_rfl) (fun _ _ _ h => h) (Or.inl ⟨by rfl, ?hy8_1⟩) (by assumption) ?rest8_1
              case hy8_1 =>
                intro w h
                (try clear h)
                go_simp
                (try with_reducible rfl)
              (try simp only [Act.put, List.getElem_toArray, List.getElem_cons_zero, List.getElem_cons_succ, List.setIfInBounds_toArray, List.set_cons_zero, List.set_cons_succ])
              refine' wpAnyH_take (i := 10) (v := _) rfl (by kernel_rfl) (by kernel_rfl) (by kernel_rfl) (fun _ _ _ h => h) (Or.inl ⟨by rfl, ?hy9_1⟩) (by assumption) ?rest9_1
              case hy9_1 =>
                intro w h
                (try clear h)
                go_simp
                (try with_reducible rfl)
              (try simp only [Act.put, List.getElem_toArray, List.getElem_cons_zero, List.getElem_cons_succ, List.setIfInBounds_toArray, List.set_cons_zero, List.set_cons_succ])
              refine' wpAnyH_take (i := 11) (v := _) rfl (by kernel_rfl) (by kernel_rfl) (by kernel_rfl) (fun _ _ _ h => h) (Or.inl ⟨by rfl, ?hy10_1⟩) (by assumption) ?rest10_1
              case hy10_1 =>
                intro w h
                (try clear h)
                go_simp
                (try with_reducible rfl)
              (try simp only [Act.put, List.getElem_toArray, List.getElem_cons_zero, List.getElem_cons_succ, List.setIfInBounds_toArray, List.set_cons_zero, List.set_cons_succ])
              refine wpAnyH_ready (rs := [8]) (by kernel_rfl) (by simp) ?_
              refine AllReadyH.cons rfl (fun K hK => ?_) AllReadyH.nil
              go_simp
              refine (HMO.out _).mono ?_
              rintro e w' ⟨rfl, rfl⟩
              refine hK.out _ _ hHeld (fun hHeld => ?_)
              clear hK K
              (try simp only [Act.put, List.getElem_toArray, List.getElem_cons_zero, List.getElem_cons_succ, List.setIfInBounds_toArray, List.set_cons_zero, List.set_cons_succ])
              refine wpAnyH_ready (rs := [9]) (by kernel_rfl) (by simp) ?_
              refine AllReadyH.cons rfl (fun K hK => ?_) AllReadyH.nil
              go_simp
              refine (HVO.out _).mono ?_
              rintro e w32 ⟨rfl, hb⟩
              have R32_m := Lib.hid (rowB R31_m.out hb)
              have B32 := Lib.hid (joins B31.out hb)
              have hHeld := grownB hHeld hb
              clear hb
              refine hK.out _ _ hHeld (fun hHeld => ?_)
              clear hK K
              (try simp only [Act.put, List.getElem_toArray, List.getElem_cons_zero, List.getElem_cons_succ, List.setIfInBounds_toArray, List.set_cons_zero, List.set_cons_succ])
              refine' wpAnyH_take (i := 12) (v := _) rfl (by kernel_rfl) (by kernel_rfl) (by kernel_rfl) (fun _ _ _ h => h) (Or.inl ⟨by rfl, ?hy11_1⟩) (by assumption) ?rest11_1
              case hy11_1 =>
                intro w h
                (try clear h)
                go_simp
                (try with_reducible rfl)
              (try simp only [Act.put, List.getElem_toArray, List.getElem_cons_zero, List.getElem_cons_succ, List.setIfInBounds_toArray, List.set_cons_zero, List.set_cons_succ])
              refine wpAnyH_ready (rs := [13]) (by kernel_rfl) (by simp) ?_
              refine AllReadyH.cons rfl (fun K hK => ?_) AllReadyH.nil
              have ct := cell_row R32_m.out (c := a * 8 + b) (by omega)
              have ft := rowFree (i := a * 8 + b) R32_m.out
              have S2 := Lib.hid (HSET.out _ R32_m.out)
              have B3 := Lib.hid (B32.out.setCell (p := ⟨w.heap.size, a * 8 + b, none⟩) LM.out (.complex .f32 x y))
              go_simp
              refine hK.out _ _ (grownCell' hHeld _ _) (fun hHeld => ?_)
              clear hK K
              (try simp only [Act.put])
              refine wpAnyH_done (by kernel_rfl) ?_ _
              go_wp2_with fail
              go_roundw
              case rel => exact ⟨b + 1, by omega, by go_num, S2.out, B3.out⟩
              case measure => simp [intOf]; omega
            · obtain rfl : q = b := by omega
              go_wp2_with fail
              go_roundw
              case rel => exact ⟨a + 1, by omega, by go_num, by rw [← pgR_row]; exact RM2.out, BR2.out⟩
              case measure => simp [intOf]; omega
        · obtain rfl : q = a := by omega
          rw [pgR_end] at RM
          have IW := Lib.hid (infoMxC (sqV q F V0) q)
          obtain ⟨W, hW⟩ : ∃ W, W = mxC (sqV q F V0) q := ⟨_, rfl⟩
          rw [← hW] at RM IW HLS
          clear hW
          go_wp2_with ((with_reducible refine at_op (Op.load 41 (.tmp 4)) ?_); refine wpList_load_part rfl 41 (.tmp 4) rfl (w.heap.size) 0 rfl W W 41 (0, 0) _ RM.out (Part.self _) Try.underlying41 rfl IW.out ?_)
          refine (HLS.out _).mono ?_
          rintro e w21 ⟨v_R, rfl, ho, hb⟩
          have R21_m := Lib.hid (rowB RM.out hb)
          have B21 := Lib.hid (joins BR.out hb)
          have O21_R := Lib.hid ho
          have LO_R := Lib.hid (show w.heap.size ≤ wo.heap.size from BR.out.size)
          clear ho
          clear hb
          go_wp2_with fail
          go_returns
          exact ⟨_, rfl, O21_R.out.mono LO_R.out, B21.out⟩
    · skip
      have B0 := Lib.hid (Below.refl w.heap.size w)
      go_enter Try.func12, Try.ntmps12
      go_wp2_with (first
        | ((with_reducible refine at_op (Op.build 41 #[(1, .tmp 17)]) ?_); refine wpList_build_row rfl 41 [(1, .tmp 17)] rfl (mxC V0 q) HBU.out ?_)
        | ((with_reducible refine at_op (d := some 4) (Op.alloc 41) ?_); refine wpList_alloc_row rfl 41 rfl (mxC V0 0) (fun w => ZZ.out w) ?_; intro w1 hr hb hz; have R1_m := Lib.hid hr; have B1 := Lib.hid (joins B0.out hb); have L1_m := Lib.hid (show w.heap.size ≤ w.heap.size from B0.out.size); clear hr hb hz)
        | ((with_reducible refine at_op (Op.store 41 (.tmp 4) (.tmp 18)) ?_); refine wpList_put_row rfl 41 (.tmp 4) (.tmp 18) rfl (w.heap.size) (mxC V0 q) rfl rfl 41 (mxC V0 0) R1_m.out 65 infoMx (mxC_size _ _) (mxC_size _ _) (mxC_one _ _) w.heap.size w B1.out L1_m.out ?_; intro w2 hr hs hb; have R2_m := Lib.hid hr; have B2 := Lib.hid hb; clear hr hs hb))
      have LM := L1_m
      have RM0 := R2_m
      have BB0 := B2
      go_loopw [20] (fun i wr => ∃ a : Nat, a ≤ q ∧ i = .int .i64 a ∧ wr.heap[w.heap.size]? = some (.cells (mxC (pgR q a 0 F V0) q) 41 (0, 0)) ∧ Below w.heap.size w wr) (fun i _ => q - (intOf i).toNat)
      case atStart => exact ⟨0, Nat.zero_le _, rfl, by rw [pgR_start]; exact RM0.out, BB0.out⟩
      case round =>
        obtain ⟨a, ha, rfl, hm, hbel⟩ := hrel
        have RM := Lib.hid hm
        have BR := Lib.hid hbel
        clear hm hbel
        generalize hwo : wr = wo at *
        clear hwo
        by_cases hlt : a < q
        · have h0 : (0 : Int) ≤ (a : Int) := by omega
          have h1 : (a : Int) < (q : Int) := by omega
          go_wp2_with fail
          go_loopw [24] (fun i wr => ∃ b : Nat, b ≤ q ∧ i = .int .i64 b ∧ wr.heap[w.heap.size]? = some (.cells (mxC (pgR q a b F V0) q) 41 (0, 0)) ∧ Below w.heap.size w wr) (fun i _ => q - (intOf i).toNat)
          case atStart => exact ⟨0, Nat.zero_le _, rfl, RM.out, BR.out⟩
          case round =>
            obtain ⟨b, hb, rfl, hm, hbel⟩ := hrel
            have RM2 := Lib.hid hm
            have BR2 := Lib.hid hbel
            clear hm hbel
            by_cases hlb : b < q
            · have h0b : (0 : Int) ≤ (b : Int) := by omega
              have h1b : (b : Int) < (q : Int) := by omega
              have h8a : (a : Int) < 4 := by omega
              have h8b : (b : Int) < 4 := by omega
              have hFb := HF.out a b (by omega)
              have hab : a * b ≤ 3 * 3 := Nat.mul_le_mul (by omega) (by omega)
              have hx : (4 : Int) * (a : Int) * (b : Int) = ((4 * a * b : Nat) : Int) := by push_cast; rfl
              have hx1 : 4 * a * b ≤ 36 := by rw [Nat.mul_assoc]; omega
              have hgd := HGD.out a b
              have hgp := HGP.out a b
              obtain ⟨X, hX⟩ : ∃ X, X = 4 * a * b := ⟨_, rfl⟩
              rw [← hX] at hx hx1 hgd
              obtain ⟨K, hK⟩ : ∃ K, K = G a b := ⟨_, rfl⟩
              rw [← hK] at hgd hgp hFb
              have hdv : X / q ≤ 36 := Nat.le_trans (Nat.div_le_self _ _) hx1
              have hdi : (X : Int) / (q : Int) = ((X / q : Nat) : Int) := by push_cast; rfl
              have hdt : (X : Int).tdiv (q : Int) = ((X / q : Nat) : Int) := rfl
              obtain ⟨Y, hY⟩ : ∃ Y, Y = X / q := ⟨_, rfl⟩
              rw [← hY] at hgd hdv hdi hdt
              have hmo := fun w => modulo_any (Y : Int) 4 (by omega) (by omega) (by omega) (by omega) w
              rw [hgd] at hmo
              have HMO := Lib.hid hmo
              have HVO := Lib.hid (valueOf_any K hgp.1 hgp.2)
              have hset := fun (w' : World) (h : w'.heap[w.heap.size]? = some (.cells (mxC (pgR q a b F V0) q) 41 (0, 0))) => set_row h (c := a * 8 + b) (by omega) (F (a * 8 + b))
              rw [pgR_step q a b F V0 hq8 hlt hlb] at hset
              rw [hFb] at hset
              obtain ⟨x, hxx⟩ : ∃ x, x = f32of (vx K) := ⟨_, rfl⟩
              obtain ⟨y, hyy⟩ : ∃ x, x = f32of (vy K) := ⟨_, rfl⟩
              rw [← hxx, ← hyy] at hset HVO
              have HSET := Lib.hid hset
              obtain ⟨w1', w2', w3', w4', w5', w6', w7'⟩ := fu_wraps a b X Y (by omega) hx hx1 hdv
              have hq0 : ¬ q = 0 := by omega
              have h9a : (a : Int) < 8 := by omega
              have h9b : (b : Int) < 8 := by omega
              clear hset hFb hxx hyy hK hmo hgd hX hY hab
              have hst := @store_complex Try.prog
              go_wp2_with fail
              go_wp2_with fail
              refine wp_region_held_drew (S := (fun w' => World.grownBy wr w' (some (w.heap.size)))) (by kernel_rfl) (grownDrew (World.grownBy.refl _ _)) ?_
              obtain ⟨w31, hdw⟩ : ∃ w', w' = wr.drew := ⟨_, rfl⟩
              rw [← hdw]
              have hb : Below wr.heap.size wr w31 := by rw [hdw]; exact belowN (Below.refl _ _) 1
              have R31_m := Lib.hid (rowB RM2.out hb)
              have B31 := Lib.hid (joins BR2.out hb)
              clear hdw hb
              intro hHeld
              refine' wpAnyH_take (i := 0) (v := _) rfl (by kernel_rfl) (by kernel_rfl) (by kernel_rfl) (fun _ _ _ h => h) (Or.inl ⟨by rfl, ?hy1_2⟩) (by assumption) ?rest1_2
              case hy1_2 =>
                intro w h
                (try clear h)
                go_simp
                (try with_reducible rfl)
              (try simp only [Act.put, List.getElem_toArray, List.getElem_cons_zero, List.setIfInBounds_toArray, List.set_cons_zero, List.set_cons_succ])
              refine' wpAnyH_take (i := 1) (v := _) rfl (by kernel_rfl) (by kernel_rfl) (by kernel_rfl) (fun _ _ _ h => h) (Or.inl ⟨by rfl, ?hy2_2⟩) (by assumption) ?rest2_2
              case hy2_2 =>
                intro w h
                (try clear h)
                go_simp
                (try with_reducible rfl)
              (try simp only [Act.put, List.getElem_toArray, List.getElem_cons_zero, List.getElem_cons_succ, List.setIfInBounds_toArray, List.set_cons_zero, List.set_cons_succ])
              refine' wpAnyH_take (i := 2) (v := _) rfl (by kernel_rfl) (by kernel_rfl) (by kernel_rfl) (fun _ _ _ h => h) (Or.inl ⟨by rfl, ?hy3_2⟩) (by assumption) ?rest3_2
              case hy3_2 =>
                intro w h
                (try clear h)
                go_simp
                (try with_reducible rfl)
              (try simp only [Act.put, List.getElem_toArray, List.getElem_cons_zero, List.getElem_cons_succ, List.setIfInBounds_toArray, List.set_cons_zero, List.set_cons_succ])
              refine' wpAnyH_take (i := 3) (v := _) rfl (by kernel_rfl) (by kernel_rfl) (by kernel_rfl) (fun _ _ _ h => h) (Or.inl ⟨by rfl, ?hy4_2⟩) (by assumption) ?rest4_2
              case hy4_2 =>
                intro w h
                (try clear h)
                go_simp
                (try with_reducible rfl)
              (try simp only [Act.put, List.getElem_toArray, List.getElem_cons_zero, List.getElem_cons_succ, List.setIfInBounds_toArray, List.set_cons_zero, List.set_cons_succ])
              refine' wpAnyH_take (i := 4) (v := _) rfl (by kernel_rfl) (by kernel_rfl) (by kernel_rfl) (fun _ _ _ h => h) (Or.inl ⟨by rfl, ?hy5_2⟩) (by assumption) ?rest5_2
              case hy5_2 =>
                intro w h
                (try clear h)
                go_simp
                (try with_reducible rfl)
              (try simp only [Act.put, List.getElem_toArray, List.getElem_cons_zero, List.getElem_cons_succ, List.setIfInBounds_toArray, List.set_cons_zero, List.set_cons_succ])
              refine' wpAnyH_take (i := 5) (v := _) rfl (by kernel_rfl) (by kernel_rfl) (by kernel_rfl) (fun _ _ _ h => h) (Or.inl ⟨by rfl, ?hy6_2⟩) (by assumption) ?rest6_2
              case hy6_2 =>
                intro w h
                (try clear h)
                go_simp
                (try with_reducible rfl)
              (try simp only [Act.put, List.getElem_toArray, List.getElem_cons_zero, List.getElem_cons_succ, List.setIfInBounds_toArray, List.set_cons_zero, List.set_cons_succ])
              refine' wpAnyH_take (i := 6) (v := _) rfl (by kernel_rfl) (by kernel_rfl) (by kernel_rfl) (fun _ _ _ h => h) (Or.inl ⟨by rfl, ?hy7_2⟩) (by assumption) ?rest7_2
              case hy7_2 =>
                intro w h
                (try clear h)
                go_simp
                (try with_reducible rfl)
              (try simp only [Act.put, List.getElem_toArray, List.getElem_cons_zero, List.getElem_cons_succ, List.setIfInBounds_toArray, List.set_cons_zero, List.set_cons_succ])
              refine' wpAnyH_take (i := 7) (v := _) rfl (by kernel_rfl) (by kernel_rfl) (by kernel_rfl) (fun _ _ _ h => h) (Or.inl ⟨by rfl, ?hy8_2⟩) (by assumption) ?rest8_2
              case hy8_2 =>
                intro w h
                (try clear h)
                go_simp
                (try with_reducible rfl)
              (try simp only [Act.put, List.getElem_toArray, List.getElem_cons_zero, List.getElem_cons_succ, List.setIfInBounds_toArray, List.set_cons_zero, List.set_cons_succ])
              refine' wpAnyH_take (i := 10) (v := _) rfl (by kernel_rfl) (by kernel_rfl) (by kernel_rfl) (fun _ _ _ h => h) (Or.inl ⟨by rfl, ?hy9_2⟩) (by assumption) ?rest9_2
              case hy9_2 =>
                intro w h
                (try clear h)
                go_simp
                (try with_reducible rfl)
              (try simp only [Act.put, List.getElem_toArray, List.getElem_cons_zero, List.getElem_cons_succ, List.setIfInBounds_toArray, List.set_cons_zero, List.set_cons_succ])
              refine' wpAnyH_take (i := 11) (v := _) rfl (by kernel_rfl) (by kernel_rfl) (by kernel_rfl) (fun _ _ _ h => h) (Or.inl ⟨by rfl, ?hy10_2⟩) (by assumption) ?rest10_2
              case hy10_2 =>
                intro w h
                (try clear h)
                go_simp
                (try with_reducible rfl)
              (try simp only [Act.put, List.getElem_toArray, List.getElem_cons_zero, List.getElem_cons_succ, List.setIfInBounds_toArray, List.set_cons_zero, List.set_cons_succ])
              refine wpAnyH_ready (rs := [8]) (by kernel_rfl) (by simp) ?_
              refine AllReadyH.cons rfl (fun K hK => ?_) AllReadyH.nil
              go_simp
              refine (HMO.out _).mono ?_
              rintro e w' ⟨rfl, rfl⟩
              refine hK.out _ _ hHeld (fun hHeld => ?_)
              clear hK K
              (try simp only [Act.put, List.getElem_toArray, List.getElem_cons_zero, List.getElem_cons_succ, List.setIfInBounds_toArray, List.set_cons_zero, List.set_cons_succ])
              refine wpAnyH_ready (rs := [9]) (by kernel_rfl) (by simp) ?_
              refine AllReadyH.cons rfl (fun K hK => ?_) AllReadyH.nil
              go_simp
              refine (HVO.out _).mono ?_
              rintro e w32 ⟨rfl, hb⟩
              have R32_m := Lib.hid (rowB R31_m.out hb)
              have B32 := Lib.hid (joins B31.out hb)
              have hHeld := grownB hHeld hb
              clear hb
              refine hK.out _ _ hHeld (fun hHeld => ?_)
              clear hK K
              (try simp only [Act.put, List.getElem_toArray, List.getElem_cons_zero, List.getElem_cons_succ, List.setIfInBounds_toArray, List.set_cons_zero, List.set_cons_succ])
              refine' wpAnyH_take (i := 12) (v := _) rfl (by kernel_rfl) (by kernel_rfl) (by kernel_rfl) (fun _ _ _ h => h) (Or.inl ⟨by rfl, ?hy11_2⟩) (by assumption) ?rest11_2
              case hy11_2 =>
                intro w h
                (try clear h)
                go_simp
                (try with_reducible rfl)
              (try simp only [Act.put, List.getElem_toArray, List.getElem_cons_zero, List.getElem_cons_succ, List.setIfInBounds_toArray, List.set_cons_zero, List.set_cons_succ])
              refine wpAnyH_ready (rs := [13]) (by kernel_rfl) (by simp) ?_
              refine AllReadyH.cons rfl (fun K hK => ?_) AllReadyH.nil
              have ct := cell_row R32_m.out (c := a * 8 + b) (by omega)
              have ft := rowFree (i := a * 8 + b) R32_m.out
              have S2 := Lib.hid (HSET.out _ R32_m.out)
              have B3 := Lib.hid (B32.out.setCell (p := ⟨w.heap.size, a * 8 + b, none⟩) LM.out (.complex .f32 x y))
              go_simp
              refine hK.out _ _ (grownCell' hHeld _ _) (fun hHeld => ?_)
              clear hK K
              (try simp only [Act.put])
              refine wpAnyH_done (by kernel_rfl) ?_ _
              go_wp2_with fail
              go_roundw
              case rel => exact ⟨b + 1, by omega, by go_num, S2.out, B3.out⟩
              case measure => simp [intOf]; omega
            · obtain rfl : q = b := by omega
              go_wp2_with fail
              go_roundw
              case rel => exact ⟨a + 1, by omega, by go_num, by rw [← pgR_row]; exact RM2.out, BR2.out⟩
              case measure => simp [intOf]; omega
        · obtain rfl : q = a := by omega
          rw [pgR_end] at RM
          have IW := Lib.hid (infoMxC (sqV q F V0) q)
          obtain ⟨W, hW⟩ : ∃ W, W = mxC (sqV q F V0) q := ⟨_, rfl⟩
          rw [← hW] at RM IW HLS
          clear hW
          go_wp2_with ((with_reducible refine at_op (Op.load 41 (.tmp 4)) ?_); refine wpList_load_part rfl 41 (.tmp 4) rfl (w.heap.size) 0 rfl W W 41 (0, 0) _ RM.out (Part.self _) Try.underlying41 rfl IW.out ?_)
          refine (HLS.out _).mono ?_
          rintro e w21 ⟨v_R, rfl, ho, hb⟩
          have R21_m := Lib.hid (rowB RM.out hb)
          have B21 := Lib.hid (joins BR.out hb)
          have O21_R := Lib.hid ho
          have LO_R := Lib.hid (show w.heap.size ≤ wo.heap.size from BR.out.size)
          clear ho
          clear hb
          go_wp2_with fail
          go_returns
          exact ⟨_, rfl, O21_R.out.mono LO_R.out, B21.out⟩
    · skip
      have B0 := Lib.hid (Below.refl w.heap.size w)
      go_enter Try.func12, Try.ntmps12
      go_wp2_with (first
        | ((with_reducible refine at_op (Op.build 41 #[(1, .tmp 17)]) ?_); refine wpList_build_row rfl 41 [(1, .tmp 17)] rfl (mxC V0 q) HBU.out ?_)
        | ((with_reducible refine at_op (d := some 4) (Op.alloc 41) ?_); refine wpList_alloc_row rfl 41 rfl (mxC V0 0) (fun w => ZZ.out w) ?_; intro w1 hr hb hz; have R1_m := Lib.hid hr; have B1 := Lib.hid (joins B0.out hb); have L1_m := Lib.hid (show w.heap.size ≤ w.heap.size from B0.out.size); clear hr hb hz)
        | ((with_reducible refine at_op (Op.store 41 (.tmp 4) (.tmp 18)) ?_); refine wpList_put_row rfl 41 (.tmp 4) (.tmp 18) rfl (w.heap.size) (mxC V0 q) rfl rfl 41 (mxC V0 0) R1_m.out 65 infoMx (mxC_size _ _) (mxC_size _ _) (mxC_one _ _) w.heap.size w B1.out L1_m.out ?_; intro w2 hr hs hb; have R2_m := Lib.hid hr; have B2 := Lib.hid hb; clear hr hs hb))
      have LM := L1_m
      have RM0 := R2_m
      have BB0 := B2
      go_loopw [20] (fun i wr => ∃ a : Nat, a ≤ q ∧ i = .int .i64 a ∧ wr.heap[w.heap.size]? = some (.cells (mxC (pgR q a 0 F V0) q) 41 (0, 0)) ∧ Below w.heap.size w wr) (fun i _ => q - (intOf i).toNat)
      case atStart => exact ⟨0, Nat.zero_le _, rfl, by rw [pgR_start]; exact RM0.out, BB0.out⟩
      case round =>
        obtain ⟨a, ha, rfl, hm, hbel⟩ := hrel
        have RM := Lib.hid hm
        have BR := Lib.hid hbel
        clear hm hbel
        generalize hwo : wr = wo at *
        clear hwo
        by_cases hlt : a < q
        · have h0 : (0 : Int) ≤ (a : Int) := by omega
          have h1 : (a : Int) < (q : Int) := by omega
          go_wp2_with fail
          go_loopw [24] (fun i wr => ∃ b : Nat, b ≤ q ∧ i = .int .i64 b ∧ wr.heap[w.heap.size]? = some (.cells (mxC (pgR q a b F V0) q) 41 (0, 0)) ∧ Below w.heap.size w wr) (fun i _ => q - (intOf i).toNat)
          case atStart => exact ⟨0, Nat.zero_le _, rfl, RM.out, BR.out⟩
          case round =>
            obtain ⟨b, hb, rfl, hm, hbel⟩ := hrel
            have RM2 := Lib.hid hm
            have BR2 := Lib.hid hbel
            clear hm hbel
            by_cases hlb : b < q
            · have h0b : (0 : Int) ≤ (b : Int) := by omega
              have h1b : (b : Int) < (q : Int) := by omega
              have h8a : (a : Int) < 4 := by omega
              have h8b : (b : Int) < 4 := by omega
              have hFb := HF.out a b (by omega)
              have hab : a * b ≤ 3 * 3 := Nat.mul_le_mul (by omega) (by omega)
              have hx : (4 : Int) * (a : Int) * (b : Int) = ((4 * a * b : Nat) : Int) := by push_cast; rfl
              have hx1 : 4 * a * b ≤ 36 := by rw [Nat.mul_assoc]; omega
              have hgd := HGD.out a b
              have hgp := HGP.out a b
              obtain ⟨X, hX⟩ : ∃ X, X = 4 * a * b := ⟨_, rfl⟩
              rw [← hX] at hx hx1 hgd
              obtain ⟨K, hK⟩ : ∃ K, K = G a b := ⟨_, rfl⟩
              rw [← hK] at hgd hgp hFb
              have hdv : X / q ≤ 36 := Nat.le_trans (Nat.div_le_self _ _) hx1
              have hdi : (X : Int) / (q : Int) = ((X / q : Nat) : Int) := by push_cast; rfl
              have hdt : (X : Int).tdiv (q : Int) = ((X / q : Nat) : Int) := rfl
              obtain ⟨Y, hY⟩ : ∃ Y, Y = X / q := ⟨_, rfl⟩
              rw [← hY] at hgd hdv hdi hdt
              have hmo := fun w => modulo_any (Y : Int) 4 (by omega) (by omega) (by omega) (by omega) w
              rw [hgd] at hmo
              have HMO := Lib.hid hmo
              have HVO := Lib.hid (valueOf_any K hgp.1 hgp.2)
              have hset := fun (w' : World) (h : w'.heap[w.heap.size]? = some (.cells (mxC (pgR q a b F V0) q) 41 (0, 0))) => set_row h (c := a * 8 + b) (by omega) (F (a * 8 + b))
              rw [pgR_step q a b F V0 hq8 hlt hlb] at hset
              rw [hFb] at hset
              obtain ⟨x, hxx⟩ : ∃ x, x = f32of (vx K) := ⟨_, rfl⟩
              obtain ⟨y, hyy⟩ : ∃ x, x = f32of (vy K) := ⟨_, rfl⟩
              rw [← hxx, ← hyy] at hset HVO
              have HSET := Lib.hid hset
              obtain ⟨w1', w2', w3', w4', w5', w6', w7'⟩ := fu_wraps a b X Y (by omega) hx hx1 hdv
              have hq0 : ¬ q = 0 := by omega
              have h9a : (a : Int) < 8 := by omega
              have h9b : (b : Int) < 8 := by omega
              clear hset hFb hxx hyy hK hmo hgd hX hY hab
              have hst := @store_complex Try.prog
              go_wp2_with fail
              go_wp2_with fail
              refine wp_region_held_drew (S := (fun w' => World.grownBy wr w' (some (w.heap.size)))) (by kernel_rfl) (grownDrew (World.grownBy.refl _ _)) ?_
              obtain ⟨w31, hdw⟩ : ∃ w', w' = wr.drew := ⟨_, rfl⟩
              rw [← hdw]
              have hb : Below wr.heap.size wr w31 := by rw [hdw]; exact belowN (Below.refl _ _) 1
              have R31_m := Lib.hid (rowB RM2.out hb)
              have B31 := Lib.hid (joins BR2.out hb)
              clear hdw hb
              intro hHeld
              refine' wpAnyH_take (i := 0) (v := _) rfl (by kernel_rfl) (by kernel_rfl) (by kernel_rfl) (fun _ _ _ h => h) (Or.inl ⟨by rfl, ?hy1_3⟩) (by assumption) ?rest1_3
              case hy1_3 =>
                intro w h
                (try clear h)
                go_simp
                (try with_reducible rfl)
              (try simp only [Act.put, List.getElem_toArray, List.getElem_cons_zero, List.setIfInBounds_toArray, List.set_cons_zero, List.set_cons_succ])
              refine' wpAnyH_take (i := 1) (v := _) rfl (by kernel_rfl) (by kernel_rfl) (by kernel_rfl) (fun _ _ _ h => h) (Or.inl ⟨by rfl, ?hy2_3⟩) (by assumption) ?rest2_3
              case hy2_3 =>
                intro w h
                (try clear h)
                go_simp
                (try with_reducible rfl)
              (try simp only [Act.put, List.getElem_toArray, List.getElem_cons_zero, List.getElem_cons_succ, List.setIfInBounds_toArray, List.set_cons_zero, List.set_cons_succ])
              refine' wpAnyH_take (i := 2) (v := _) rfl (by kernel_rfl) (by kernel_rfl) (by kernel_rfl) (fun _ _ _ h => h) (Or.inl ⟨by rfl, ?hy3_3⟩) (by assumption) ?rest3_3
              case hy3_3 =>
                intro w h
                (try clear h)
                go_simp
                (try with_reducible rfl)
              (try simp only [Act.put, List.getElem_toArray, List.getElem_cons_zero, List.getElem_cons_succ, List.setIfInBounds_toArray, List.set_cons_zero, List.set_cons_succ])
              refine' wpAnyH_take (i := 3) (v := _) rfl (by kernel_rfl) (by kernel_rfl) (by kernel_rfl) (fun _ _ _ h => h) (Or.inl ⟨by rfl, ?hy4_3⟩) (by assumption) ?rest4_3
              case hy4_3 =>
                intro w h
                (try clear h)
                go_simp
                (try with_reducible rfl)
              (try simp only [Act.put, List.getElem_toArray, List.getElem_cons_zero, List.getElem_cons_succ, List.setIfInBounds_toArray, List.set_cons_zero, List.set_cons_succ])
              refine' wpAnyH_take (i := 4) (v := _) rfl (by kernel_rfl) (by kernel_rfl) (by kernel_rfl) (fun _ _ _ h => h) (Or.inl ⟨by rfl, ?hy5_3⟩) (by assumption) ?rest5_3
              case hy5_3 =>
                intro w h
                (try clear h)
                go_simp
                (try with_reducible rfl)
              (try simp only [Act.put, List.getElem_toArray, List.getElem_cons_zero, List.getElem_cons_succ, List.setIfInBounds_toArray, List.set_cons_zero, List.set_cons_succ])
              refine' wpAnyH_take (i := 5) (v := _) rfl (by kernel_rfl) (by kernel_rfl) (by kernel_rfl) (fun _ _ _ h => h) (Or.inl ⟨by rfl, ?hy6_3⟩) (by assumption) ?rest6_3
              case hy6_3 =>
                intro w h
                (try clear h)
                go_simp
                (try with_reducible rfl)
              (try simp only [Act.put, List.getElem_toArray, List.getElem_cons_zero, List.getElem_cons_succ, List.setIfInBounds_toArray, List.set_cons_zero, List.set_cons_succ])
              refine' wpAnyH_take (i := 6) (v := _) rfl (by kernel_rfl) (by kernel_rfl) (by kernel_rfl) (fun _ _ _ h => h) (Or.inl ⟨by rfl, ?hy7_3⟩) (by assumption) ?rest7_3
              case hy7_3 =>
                intro w h
                (try clear h)
                go_simp
                (try with_reducible rfl)
              (try simp only [Act.put, List.getElem_toArray, List.getElem_cons_zero, List.getElem_cons_succ, List.setIfInBounds_toArray, List.set_cons_zero, List.set_cons_succ])
              refine' wpAnyH_take (i := 7) (v := _) rfl (by kernel_rfl) (by kernel_rfl) (by kernel_rfl) (fun _ _ _ h => h) (Or.inl ⟨by rfl, ?hy8_3⟩) (by assumption) ?rest8_3
              case hy8_3 =>
                intro w h
                (try clear h)
                go_simp
                (try with_reducible rfl)
              (try simp only [Act.put, List.getElem_toArray, List.getElem_cons_zero, List.getElem_cons_succ, List.setIfInBounds_toArray, List.set_cons_zero, List.set_cons_succ])
              refine' wpAnyH_take (i := 10) (v := _) rfl (by kernel_rfl) (by kernel_rfl) (by kernel_rfl) (fun _ _ _ h => h) (Or.inl ⟨by rfl, ?hy9_3⟩) (by assumption) ?rest9_3
              case hy9_3 =>
                intro w h
                (try clear h)
                go_simp
                (try with_reducible rfl)
              (try simp only [Act.put, List.getElem_toArray, List.getElem_cons_zero, List.getElem_cons_succ, List.setIfInBounds_toArray, List.set_cons_zero, List.set_cons_succ])
              refine' wpAnyH_take (i := 11) (v := _) rfl (by kernel_rfl) (by kernel_rfl) (by kernel_rfl) (fun _ _ _ h => h) (Or.inl ⟨by rfl, ?hy10_3⟩) (by assumption) ?rest10_3
              case hy10_3 =>
                intro w h
                (try clear h)
                go_simp
                (try with_reducible rfl)
              (try simp only [Act.put, List.getElem_toArray, List.getElem_cons_zero, List.getElem_cons_succ, List.setIfInBounds_toArray, List.set_cons_zero, List.set_cons_succ])
              refine wpAnyH_ready (rs := [8]) (by kernel_rfl) (by simp) ?_
              refine AllReadyH.cons rfl (fun K hK => ?_) AllReadyH.nil
              go_simp
              refine (HMO.out _).mono ?_
              rintro e w' ⟨rfl, rfl⟩
              refine hK.out _ _ hHeld (fun hHeld => ?_)
              clear hK K
              (try simp only [Act.put, List.getElem_toArray, List.getElem_cons_zero, List.getElem_cons_succ, List.setIfInBounds_toArray, List.set_cons_zero, List.set_cons_succ])
              refine wpAnyH_ready (rs := [9]) (by kernel_rfl) (by simp) ?_
              refine AllReadyH.cons rfl (fun K hK => ?_) AllReadyH.nil
              go_simp
              refine (HVO.out _).mono ?_
              rintro e w32 ⟨rfl, hb⟩
              have R32_m := Lib.hid (rowB R31_m.out hb)
              have B32 := Lib.hid (joins B31.out hb)
              have hHeld := grownB hHeld hb
              clear hb
              refine hK.out _ _ hHeld (fun hHeld => ?_)
              clear hK K
              (try simp only [Act.put, List.getElem_toArray, List.getElem_cons_zero, List.getElem_cons_succ, List.setIfInBounds_toArray, List.set_cons_zero, List.set_cons_succ])
              refine' wpAnyH_take (i := 12) (v := _) rfl (by kernel_rfl) (by kernel_rfl) (by kernel_rfl) (fun _ _ _ h => h) (Or.inl ⟨by rfl, ?hy11_3⟩) (by assumption) ?rest11_3
              case hy11_3 =>
                intro w h
                (try clear h)
                go_simp
                (try with_reducible rfl)
              (try simp only [Act.put, List.getElem_toArray, List.getElem_cons_zero, List.getElem_cons_succ, List.setIfInBounds_toArray, List.set_cons_zero, List.set_cons_succ])
              refine wpAnyH_ready (rs := [13]) (by kernel_rfl) (by simp) ?_
              refine AllReadyH.cons rfl (fun K hK => ?_) AllReadyH.nil
              have ct := cell_row R32_m.out (c := a * 8 + b) (by omega)
              have ft := rowFree (i := a * 8 + b) R32_m.out
              have S2 := Lib.hid (HSET.out _ R32_m.out)
              have B3 := Lib.hid (B32.out.setCell (p := ⟨w.heap.size, a * 8 + b, none⟩) LM.out (.complex .f32 x y))
              go_simp
              refine hK.out _ _ (grownCell' hHeld _ _) (fun hHeld => ?_)
              clear hK K
              (try simp only [Act.put])
              refine wpAnyH_done (by kernel_rfl) ?_ _
              go_wp2_with fail
              go_roundw
              case rel => exact ⟨b + 1, by omega, by go_num, S2.out, B3.out⟩
              case measure => simp [intOf]; omega
            · obtain rfl : q = b := by omega
              go_wp2_with fail
              go_roundw
              case rel => exact ⟨a + 1, by omega, by go_num, by rw [← pgR_row]; exact RM2.out, BR2.out⟩
              case measure => simp [intOf]; omega
        · obtain rfl : q = a := by omega
          rw [pgR_end] at RM
          have IW := Lib.hid (infoMxC (sqV q F V0) q)
          obtain ⟨W, hW⟩ : ∃ W, W = mxC (sqV q F V0) q := ⟨_, rfl⟩
          rw [← hW] at RM IW HLS
          clear hW
          go_wp2_with ((with_reducible refine at_op (Op.load 41 (.tmp 4)) ?_); refine wpList_load_part rfl 41 (.tmp 4) rfl (w.heap.size) 0 rfl W W 41 (0, 0) _ RM.out (Part.self _) Try.underlying41 rfl IW.out ?_)
          refine (HLS.out _).mono ?_
          rintro e w21 ⟨v_R, rfl, ho, hb⟩
          have R21_m := Lib.hid (rowB RM.out hb)
          have B21 := Lib.hid (joins BR.out hb)
          have O21_R := Lib.hid ho
          have LO_R := Lib.hid (show w.heap.size ≤ wo.heap.size from BR.out.size)
          clear ho
          clear hb
          go_wp2_with fail
          go_returns
          exact ⟨_, rfl, O21_R.out.mono LO_R.out, B21.out⟩
end Go.Proofs.Ytbppbkoppbnodaa
