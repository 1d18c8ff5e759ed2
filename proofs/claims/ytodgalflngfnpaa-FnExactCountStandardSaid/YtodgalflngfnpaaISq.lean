/- The program's SquaresOf, CountStandard. -/
import Derived.Test.YtodgalflngfnpaaIGo
import Derived.Test.YtodgalflngfnpaaIVr
import Derived.Test.YtodgalflngfnpaaGoS
namespace Go.Proofs.Ytodgalflngfnpaa
set_option maxRecDepth 100000
open Go.RowKit

theorem grownCell {w0 w : World} {g : Nat} (h : w0.grownBy w (some g)) (o : Nat) (v : Value) : w0.grownBy (w.setCell ⟨g, o, none⟩ v) (some g) :=
  ⟨h.os, h.tape, h.output, by simpa using h.size, fun k hk hne => (heap_setCell_other w ⟨g, o, none⟩ k v (fun e => hne (by rw [e]))).trans (h.block k hk hne)⟩
set_option maxHeartbeats 1000000 in
theorem icountStandard (m : Int) (w : World) : Calls Try.prog 44 #[.int .i64 m] w (Ret w (.tuple #[.int .i64 (csC m), .bool (csOk m)])) := by
  by_cases hs : csOk m = true
  · have hn : 2 ≤ m ∧ m ≤ 5 := of_decide_eq_true hs
    rw [hs]
    clear hs
    rcases (show m = 2 ∨ m = 3 ∨ m = 4 ∨ m = 5 by omega) with rfl | rfl | rfl | rfl
    all_goals
      clear hn
      simp only [csC]
      go_enter Try.func44, Try.ntmps44
      go_wp2_with fail
      go_rounds 6
      all_goals
        go_wp2_with fail
        go_returns
        exact ⟨rfl, by go_grown⟩
  · have hs2 : csOk m = false := by simpa using hs
    have hn : ¬ (2 ≤ m ∧ m ≤ 5) := of_decide_eq_false hs2
    rw [csC_no m hs2, hs2]
    clear hs hs2
    by_cases h2 : m < 2
    · clear hn
      go_enter Try.func44, Try.ntmps44
      go_wp2_with fail
      go_returns
      exact ⟨rfl, by go_grown⟩
    · have h5 : 5 < m := by omega
      have h2' : 2 ≤ m := by omega
      clear hn h2
      go_enter Try.func44, Try.ntmps44
      go_wp2_with fail
      go_returns
      exact ⟨rfl, by go_grown⟩

set_option maxHeartbeats 4000000 in
theorem isquaresOf (va vb : Value) (a b : List Int) (w : World) (hva : IS w va a) (hvb : IS w vb b) (hla : a.length ≤ 1048576) (hlb : b.length ≤ 1048576) :
    Calls Try.prog 46 #[va, vb] w (MakesB w (sqL a b) (goOk a b)) := by
  obtain ⟨hp, hq, hpq⟩ := pr_facts a b
  obtain ⟨i0, hi, hz0, hz1, hz2⟩ := info_parts infoInt
  have HI0 := Lib.hid hi
  have HZ00 := Lib.hid hz0
  have HZ10 := Lib.hid hz1
  have HZ20 := Lib.hid hz2
  have HPF := Lib.hid (pairFrom_any va vb a b w hva hvb hla hlb)
  have HIP := prIsPair_any (pL a b) (pR a b) hp
  rw [pr_ok] at HIP
  have h32 := isSeq_len hp
  have h32q := isSeq_len hq
  have hva1 : ∀ (l : List Int), isSeq l = true → l.length ≤ 32 → ∀ k : Nat, k < 4 → ∃ x y : Nat, (∀ w, Calls Try.prog 82 #[.agg (phC l), .int .i64 k] w (Ret w (.complex .f32 x y))) ∧ ∀ w, Calls Try.prog 81 #[.complex .f32 x y] w (Pure w (.int .i64 (sqA l k))) := fun l hl h32 k hk =>
    ⟨_, _, fun w => by rw [phC_seq hl]; exact valueAtRoot_any l k hl (by omega) (by omega) w, fun w => normOfSum_any (vrS vx l k) (vrS vy l k) (vrS_small vx vx_one l k h32) (vrS_small vy vy_one l k h32) w⟩
  have HA := Lib.hid (hva1 _ hp h32)
  have HB := Lib.hid (hva1 _ hq h32q)
  have hba := sqA_bound _ h32
  have hbb := sqA_bound _ h32q
  have IC := Lib.hid (infoPrC (pL a b) (pR a b))
  have SC := Lib.hid (prC_size (pL a b) (pR a b))
  have OC := Lib.hid (prC_one (pL a b) (pR a b))
  have PA := Lib.hid (prC_fst (pL a b) (pR a b))
  have PB := Lib.hid (prC_snd (pL a b) (pR a b))
  have IA := Lib.hid (infoPhC (pL a b))
  have IB := Lib.hid (infoPhC (pR a b))
  have SZ := Lib.hid (prC_size [] [])
  have ZZ := Lib.hid zeroPr
  obtain ⟨Z, hZ⟩ : ∃ Z, Z = prC [] [] := ⟨_, rfl⟩
  rw [← hZ] at SZ ZZ
  obtain ⟨C, hC⟩ : ∃ Z, Z = prC (pL a b) (pR a b) := ⟨_, rfl⟩
  obtain ⟨CA, hCA⟩ : ∃ Z, Z = phC (pL a b) := ⟨_, rfl⟩
  obtain ⟨CB, hCB⟩ : ∃ Z, Z = phC (pR a b) := ⟨_, rfl⟩
  rw [← hC] at HPF HIP IC SC OC PA PB
  rw [← hCA] at HA PA IA
  rw [← hCB] at HB PB IB
  have hsq : sqL a b = if goOk a b then gen 4 (fun k => sqA (pL a b) k + sqA (pR a b) k) else [] := by
    unfold sqL
    cases hg : goOk a b with
    | false => rfl
    | true => rw [(pr_yes hg).1, (pr_yes hg).2]
  rw [hsq]
  obtain ⟨F, hF⟩ : ∃ F, F = sqA (pL a b) := ⟨_, rfl⟩
  obtain ⟨G, hG⟩ : ∃ G, G = sqA (pR a b) := ⟨_, rfl⟩
  rw [← hF] at HA hba ⊢
  rw [← hG] at HB hbb ⊢
  obtain ⟨L, hL⟩ : ∃ L, L = gen 4 (fun k => F k + G k) := ⟨_, rfl⟩
  have HLEN := Lib.hid (show L.length = 4 by rw [hL, gen_length])
  have HGET := Lib.hid (show ∀ k : Nat, k < 4 → L.getD k 0 = F k + G k from fun k hk => by rw [hL, gen_getD _ _ k hk])
  rw [← hL]
  obtain ⟨ok, hok⟩ : ∃ X, X = goOk a b := ⟨_, rfl⟩
  rw [← hok] at HIP ⊢
  have HIP' := Lib.hid HIP
  have HBA := Lib.hid hba
  have HBB := Lib.hid hbb
  clear HIP hi hz0 hz1 hz2 hZ hC hCA hCB hsq hF hG hL hok hp hq hpq hva hvb h32 h32q hva1 hba hbb
  cases ok with
  | false =>
    rw [if_neg (by decide)]
    have B0 := Lib.hid (Below.refl w.heap.size w)
    go_enter Try.func46, Try.ntmps46
    go_wp2_with fail
    refine (HPF.out).mono ?_
    rintro e w1 ⟨rfl, hb⟩
    have B1 := Lib.hid (joins B0.out hb)
    clear hb
    go_wp2_with (first
      | ((with_reducible refine at_op (d := some 6) (Op.alloc 50) ?_); refine wpList_alloc_row rfl 50 rfl Z (fun w => ZZ.out w) ?_; intro w2 hr hb hz; have R2_p := Lib.hid hr; have B2 := Lib.hid (joins B1.out hb); have L2_p := Lib.hid (show w.heap.size ≤ w1.heap.size from B1.out.size); clear hr hb hz)
      | ((with_reducible refine at_op (Op.store 50 (.tmp 6) (.tmp 11)) ?_); refine wpList_put_row rfl 50 (.tmp 6) (.tmp 11) rfl (w1.heap.size) C rfl rfl 50 Z R2_p.out 66 infoPr SC.out SZ.out OC.out w.heap.size w B2.out L2_p.out ?_; intro w3 hr hs hb; have R3_p := Lib.hid hr; have B3 := Lib.hid hb; clear hr hs hb)
      | ((with_reducible refine at_op (Op.load 50 (.tmp 6)) ?_); refine wpList_load_part rfl 50 (.tmp 6) rfl (w1.heap.size) 0 rfl C C 50 (0, 0) _ R3_p.out (Part.self _) Try.underlying50 rfl IC.out ?_))
    refine (HIP'.out _).mono ?_
    rintro e w4 ⟨rfl, hb⟩
    have R4_p := Lib.hid (rowB R3_p.out hb)
    have B4 := Lib.hid (joins B3.out hb)
    clear hb
    go_wp2_with fail
    go_returns
    exact ⟨_, rfl, World.ownsRow_nil _ _ _ _, B4.out⟩
  | true =>
    rw [if_pos rfl]
    have B0 := Lib.hid (Below.refl w.heap.size w)
    go_enter Try.func46, Try.ntmps46
    go_wp2_with fail
    refine (HPF.out).mono ?_
    rintro e w1 ⟨rfl, hb⟩
    have B1 := Lib.hid (joins B0.out hb)
    clear hb
    go_wp2_with (first
      | ((with_reducible refine at_op (d := some 6) (Op.alloc 50) ?_); refine wpList_alloc_row rfl 50 rfl Z (fun w => ZZ.out w) ?_; intro w2 hr hb hz; have R2_p := Lib.hid hr; have B2 := Lib.hid (joins B1.out hb); have L2_p := Lib.hid (show w.heap.size ≤ w1.heap.size from B1.out.size); clear hr hb hz)
      | ((with_reducible refine at_op (Op.store 50 (.tmp 6) (.tmp 11)) ?_); refine wpList_put_row rfl 50 (.tmp 6) (.tmp 11) rfl (w1.heap.size) C rfl rfl 50 Z R2_p.out 66 infoPr SC.out SZ.out OC.out w.heap.size w B2.out L2_p.out ?_; intro w3 hr hs hb; have R3_p := Lib.hid hr; have B3 := Lib.hid hb; clear hr hs hb)
      | ((with_reducible refine at_op (Op.load 50 (.tmp 6)) ?_); refine wpList_load_part rfl 50 (.tmp 6) rfl (w1.heap.size) 0 rfl C C 50 (0, 0) _ R3_p.out (Part.self _) Try.underlying50 rfl IC.out ?_))
    refine (HIP'.out _).mono ?_
    rintro e w4 ⟨rfl, hb⟩
    have R4_p := Lib.hid (rowB R3_p.out hb)
    have B4 := Lib.hid (joins B3.out hb)
    clear hb
    go_wp2_with (at_make; refine wpList_make_full _ rfl _ _ 22 rfl w4.heap.size 3 i0 (.int .i64 0) 1 Try.underlying22 HI0.out HZ00.out HZ10.out _ _ _ _ 4 rfl rfl rfl rfl ?b2_1 ?b3_1 (Nat.le_refl _) ?_)
    case b2_1 => rw [HZ20.out]; omega
    case b3_1 => unfold maxLen; omega
    intro w5 hown0 hgrow0
    rw [made_zeros] at hown0
    have hb : Below w4.heap.size w4 w5 := (Below.refl _ _).grown hgrow0 (Nat.le_refl _) (fun k h => by cases h)
    have R5_p := Lib.hid (rowB R4_p.out hb)
    have B5 := Lib.hid (joins B4.out hb)
    have O5_o := Lib.hid hown0
    have N5_p_o := Lib.hid (show w1.heap.size ≠ w4.heap.size from Nat.ne_of_lt (row_lt R4_p.out))
    have L5_o := Lib.hid (show w.heap.size ≤ w4.heap.size from B4.out.size)
    clear hown0 hgrow0 hb
    go_wp2_with fail
    go_loopw [18] (fun i wr => ∃ j : Nat, j ≤ 4 ∧ i = .int .i64 j ∧ wr.ownsRow w4.heap.size 3 1 (.slice (some ⟨w4.heap.size, 0, none⟩) 4 4) 4 ((L.take j ++ List.replicate (4 - j) (0 : Int)).map (Value.int .i64)) ∧ wr.heap[w1.heap.size]? = some (.cells C 50 (0, 0)) ∧ Below w.heap.size w wr) (fun i _ => 4 - (intOf i).toNat)
    case atStart => exact ⟨0, Nat.zero_le _, rfl, by simpa using O5_o.out, R5_p.out, B5.out⟩
    case round =>
      obtain ⟨j, hj, rfl, hown, hrow, hbel⟩ := hrel
      have HO := Lib.hid hown
      have RR := Lib.hid hrow
      have BR := Lib.hid hbel
      clear hown hrow hbel
      by_cases hlt : j < 4
      · have h0 : (0 : Int) ≤ (j : Int) := by omega
        have h1 : (j : Int) < 4 := by omega
        obtain ⟨x1, y1, ha1, hn1⟩ := HA.out j hlt
        obtain ⟨x2, y2, hb2, hn2⟩ := HB.out j hlt
        have hbj := HBA.out j
        have hbk := HBB.out j
        have HGj := HGET.out j hlt
        obtain ⟨f, hf⟩ : ∃ f, f = F j := ⟨_, rfl⟩
        obtain ⟨g, hg⟩ : ∃ f, f = G j := ⟨_, rfl⟩
        rw [← hf] at hn1 hbj HGj
        rw [← hg] at hn2 hbk HGj
        have HA1 := Lib.hid ha1
        have HB1 := Lib.hid hb2
        have HN1 := Lib.hid hn1
        have HN2 := Lib.hid hn2
        have HWR := Lib.hid (show IntKind.i64.wrap (f + g) = f + g from IntWalk.i64_in _ (by omega))
        have HG' := Lib.hid HGj
        have hcell : ∀ w' : World, w'.ownsRow w4.heap.size 3 1 (.slice (some ⟨w4.heap.size, 0, none⟩) 4 4) 4 ((L.take j ++ List.replicate (4 - j) (0 : Int)).map (Value.int .i64)) → w'.cell? ⟨w4.heap.size, j, none⟩ = some (.int .i64 0) := fun w' h => by
          rw [h.cellAt j (by omega)]
          have := copy_at L j (by rw [HLEN.out]; exact hlt)
          rwa [HLEN.out] at this
        have HCELL := Lib.hid hcell
        clear ha1 hb2 hn1 hn2 hf hg HGj hcell
        go_wp2_with fail
        go_wp2_with fail
        refine wp_region_held_drew (S := (fun w' => World.grownBy wr w' (some (w4.heap.size)))) (by kernel_rfl) (grownDrew (World.grownBy.refl _ _)) ?_
        obtain ⟨w21, hdw⟩ : ∃ w', w' = wr.drew := ⟨_, rfl⟩
        rw [← hdw]
        have hb : Below wr.heap.size wr w21 := by rw [hdw]; exact belowN (Below.refl _ _) 1
        have R21_p := Lib.hid (rowB RR.out hb)
        have O21_o := Lib.hid (rowBelow HO.out hb)
        have B21 := Lib.hid (joins BR.out hb)
        clear hdw hb
        intro hHeld
        refine' wpAnyH_take (i := 0) (v := _) rfl (by kernel_rfl) (by kernel_rfl) (by kernel_rfl) (fun _ _ _ h => h) (Or.inl ⟨by rfl, ?hy2⟩) (by assumption) ?rest2
        case hy2 =>
          intro w h
          (try clear h)
          go_simp
          (try with_reducible rfl)
        (try simp only [Act.put, List.getElem_toArray, List.getElem_cons_zero, List.setIfInBounds_toArray, List.set_cons_zero, List.set_cons_succ])
        refine' wpAnyH_take (i := 1) (v := _) rfl (by kernel_rfl) (by kernel_rfl) (by kernel_rfl) (fun _ _ _ h => h) (Or.inl ⟨by rfl, ?hy3⟩) (by assumption) ?rest3
        case hy3 =>
          intro w h
          (try clear h)
          go_simp
          (try with_reducible rfl)
        (try simp only [Act.put, List.getElem_toArray, List.getElem_cons_zero, List.getElem_cons_succ, List.setIfInBounds_toArray, List.set_cons_zero, List.set_cons_succ])
        refine' wpAnyH_take (i := 2) (v := _) rfl (by kernel_rfl) (by kernel_rfl) (by kernel_rfl) (fun _ _ _ h => h) (Or.inl ⟨by rfl, ?hy4⟩) (by assumption) ?rest4
        case hy4 =>
          intro w h
          (try clear h)
          go_simp
          (try with_reducible rfl)
        (try simp only [Act.put, List.getElem_toArray, List.getElem_cons_zero, List.getElem_cons_succ, List.setIfInBounds_toArray, List.set_cons_zero, List.set_cons_succ])
        refine' wpAnyH_take (i := 3) (v := _) rfl (by kernel_rfl) (by kernel_rfl) (by kernel_rfl) (fun _ _ _ h => h) (yieldsPart (by rfl) 48 (.tmp 23) rfl (w1.heap.size) 0 rfl C CA 50 (0, 0) _ (fun w h => (rowG RR.out h (fun e => N5_p_o.out (Option.some.inj e)))) PA.out Try.underlying48 rfl IA.out) (by assumption) ?rest5
        (try simp only [Act.put, List.getElem_toArray, List.getElem_cons_zero, List.getElem_cons_succ, List.setIfInBounds_toArray, List.set_cons_zero, List.set_cons_succ])
        refine' wpAnyH_take (i := 4) (v := _) rfl (by kernel_rfl) (by kernel_rfl) (by kernel_rfl) (fun _ _ _ h => h) (Or.inl ⟨by rfl, ?hy6⟩) (by assumption) ?rest6
        case hy6 =>
          intro w h
          (try clear h)
          go_simp
          (try with_reducible rfl)
        (try simp only [Act.put, List.getElem_toArray, List.getElem_cons_zero, List.getElem_cons_succ, List.setIfInBounds_toArray, List.set_cons_zero, List.set_cons_succ])
        refine' wpAnyH_take (i := 7) (v := _) rfl (by kernel_rfl) (by kernel_rfl) (by kernel_rfl) (fun _ _ _ h => h) (Or.inl ⟨by rfl, ?hy7⟩) (by assumption) ?rest7
        case hy7 =>
          intro w h
          (try clear h)
          go_simp
          (try with_reducible rfl)
        (try simp only [Act.put, List.getElem_toArray, List.getElem_cons_zero, List.getElem_cons_succ, List.setIfInBounds_toArray, List.set_cons_zero, List.set_cons_succ])
        refine' wpAnyH_take (i := 8) (v := _) rfl (by kernel_rfl) (by kernel_rfl) (by kernel_rfl) (fun _ _ _ h => h) (yieldsPart (by rfl) 48 (.tmp 28) rfl (w1.heap.size) 33 rfl C CB 50 (0, 0) _ (fun w h => (rowG RR.out h (fun e => N5_p_o.out (Option.some.inj e)))) PB.out Try.underlying48 rfl IB.out) (by assumption) ?rest8
        (try simp only [Act.put, List.getElem_toArray, List.getElem_cons_zero, List.getElem_cons_succ, List.setIfInBounds_toArray, List.set_cons_zero, List.set_cons_succ])
        refine' wpAnyH_take (i := 9) (v := _) rfl (by kernel_rfl) (by kernel_rfl) (by kernel_rfl) (fun _ _ _ h => h) (Or.inl ⟨by rfl, ?hy9⟩) (by assumption) ?rest9
        case hy9 =>
          intro w h
          (try clear h)
          go_simp
          (try with_reducible rfl)
        (try simp only [Act.put, List.getElem_toArray, List.getElem_cons_zero, List.getElem_cons_succ, List.setIfInBounds_toArray, List.set_cons_zero, List.set_cons_succ])
        refine wpAnyH_ready (rs := [5]) (by kernel_rfl) (by simp) ?_
        refine AllReadyH.cons rfl (fun K hK => ?_) AllReadyH.nil
        go_simp
        refine (HA1.out _).mono ?_
        rintro e w22 ⟨rfl, hb⟩
        have R22_p := Lib.hid (rowB R21_p.out hb)
        have O22_o := Lib.hid (rowBelow O21_o.out hb)
        have B22 := Lib.hid (joins B21.out hb)
        have hHeld := grownB hHeld hb
        clear hb
        refine hK.out _ _ hHeld (fun hHeld => ?_)
        clear hK K
        (try simp only [Act.put, List.getElem_toArray, List.getElem_cons_zero, List.getElem_cons_succ, List.setIfInBounds_toArray, List.set_cons_zero, List.set_cons_succ])
        refine wpAnyH_ready (rs := [6]) (by kernel_rfl) (by simp) ?_
        refine AllReadyH.cons rfl (fun K hK => ?_) AllReadyH.nil
        go_simp
        refine (HN1.out _).mono ?_
        rintro e w' ⟨rfl, rfl⟩
        refine hK.out _ _ hHeld (fun hHeld => ?_)
        clear hK K
        (try simp only [Act.put, List.getElem_toArray, List.getElem_cons_zero, List.getElem_cons_succ, List.setIfInBounds_toArray, List.set_cons_zero, List.set_cons_succ])
        refine wpAnyH_ready (rs := [10]) (by kernel_rfl) (by simp) ?_
        refine AllReadyH.cons rfl (fun K hK => ?_) AllReadyH.nil
        go_simp
        refine (HB1.out _).mono ?_
        rintro e w23 ⟨rfl, hb⟩
        have R23_p := Lib.hid (rowB R22_p.out hb)
        have O23_o := Lib.hid (rowBelow O22_o.out hb)
        have B23 := Lib.hid (joins B22.out hb)
        have hHeld := grownB hHeld hb
        clear hb
        refine hK.out _ _ hHeld (fun hHeld => ?_)
        clear hK K
        (try simp only [Act.put, List.getElem_toArray, List.getElem_cons_zero, List.getElem_cons_succ, List.setIfInBounds_toArray, List.set_cons_zero, List.set_cons_succ])
        refine wpAnyH_ready (rs := [11]) (by kernel_rfl) (by simp) ?_
        refine AllReadyH.cons rfl (fun K hK => ?_) AllReadyH.nil
        go_simp
        refine (HN2.out _).mono ?_
        rintro e w' ⟨rfl, rfl⟩
        refine hK.out _ _ hHeld (fun hHeld => ?_)
        clear hK K
        (try simp only [Act.put, List.getElem_toArray, List.getElem_cons_zero, List.getElem_cons_succ, List.setIfInBounds_toArray, List.set_cons_zero, List.set_cons_succ])
        refine' wpAnyH_take (i := 12) (v := _) rfl (by kernel_rfl) (by kernel_rfl) (by kernel_rfl) (fun _ _ _ h => h) (Or.inl ⟨by rfl, ?hy10⟩) (by assumption) ?rest10
        case hy10 =>
          intro w h
          have hwr := HWR.out
          (try clear h)
          go_simp
          (try with_reducible rfl)
        (try simp only [Act.put, List.getElem_toArray, List.getElem_cons_zero, List.getElem_cons_succ, List.setIfInBounds_toArray, List.set_cons_zero, List.set_cons_succ])
        refine' wpAnyH_take (i := 13) (v := _) rfl (by kernel_rfl) (by kernel_rfl) (by kernel_rfl) (fun _ _ _ h => h) (Or.inl ⟨by rfl, ?hy11⟩) (by assumption) ?rest11
        case hy11 =>
          intro w h
          (try clear h)
          go_simp
          (try with_reducible rfl)
        (try simp only [Act.put, List.getElem_toArray, List.getElem_cons_zero, List.getElem_cons_succ, List.setIfInBounds_toArray, List.set_cons_zero, List.set_cons_succ])
        refine wpAnyH_ready (rs := [14]) (by kernel_rfl) (by simp) ?_
        refine AllReadyH.cons rfl (fun K hK => ?_) AllReadyH.nil
        have c1 := HCELL.out _ O23_o.out
        have c2 := O23_o.out.frozenAt j
        go_simp
        refine hK.out _ _ (grownCell hHeld _ _) (fun hHeld => ?_)
        clear hK K
        (try simp only [Act.put])
        refine wpAnyH_done (by kernel_rfl) ?_ _
        go_wp2_with fail
        go_roundw
        case rel =>
          have hs := O23_o.out.stored j (.int .i64 (f + g))
          rw [← HG'.out, set_copy L 4 HLEN.out.symm j (by rw [HLEN.out]; exact hlt), HG'.out] at hs
          exact ⟨j + 1, by omega, by go_num, hs.1, (heap_setCell_other _ ⟨w4.heap.size, j, none⟩ (w1.heap.size) _ (fun e => N5_p_o.out e)).trans R23_p.out, B23.out.setCell L5_o.out _⟩
        case measure => simp [intOf]; omega
      · have he : j = 4 := by omega
        subst he
        go_wp2_with fail
        go_returns
        refine ⟨_, rfl, ?_, BR.out⟩
        have := HO.out
        rw [Nat.sub_self, show L.take 4 = L from by rw [← HLEN.out, List.take_length]] at this
        have := rowMono (B' := w.heap.size) this L5_o.out
        unfold Own
        rw [HLEN.out]
        simpa using this
end Go.Proofs.Ytodgalflngfnpaa
