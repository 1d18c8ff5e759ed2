/- The program's ways to make a pair, each by its method; listsMade. -/
import Derived.Test.YtcpeikkkegpdhabIMade
import Derived.Test.YtcpeikkkegpdhabIFit
import Derived.Test.YtcpeikkkegpdhabSGoJ
namespace Go.Proofs.Ytcpeikkkegpdhab
set_option maxRecDepth 100000
open Go.RowKit

theorem prK_cells (p q : List Int) (k : Int) : (prK p q k)[66]? = some (.int .i64 k) := prK_num p q k

set_option maxHeartbeats 4000000 in
theorem made_joining (p q : List Int) (k : Int) (hp : isSeq p = true) (hq : isSeq q = true) (hpq : p.length = q.length) (h0 : 0 ≤ k) (h3 : k ≤ 3) (w : World) :
    Calls Try.prog 46 #[.agg (prK p q k)] w (Ret w (.tuple #[.agg (prC (iff (fits p q) (p ++ turnG q k)) (iff (fits p q) (p ++ turnG (turnG q k) 2))), .bool (fits p q)])) := by
  have HT := turnedC q k hq (by omega) (by omega)
  have HB := bothSigns_joined p (turnG q k) hp (turnG_seq q k hq) (by rw [turnG_length]; exact hpq)
  rw [show fits p (turnG q k) = fits p q from rfl] at HB
  have P1 := Lib.hid (prK_fst p q k)
  have P2 := Lib.hid (prK_snd p q k)
  have NK := Lib.hid (prK_num p q k)
  have IP := Lib.hid (infoPhC p)
  have IQ := Lib.hid (infoPhC q)
  obtain ⟨e1, he1⟩ : ∃ e, e = iff (fits p q) (p ++ turnG q k) := ⟨_, rfl⟩
  obtain ⟨e2, he2⟩ : ∃ e, e = iff (fits p q) (p ++ turnG (turnG q k) 2) := ⟨_, rfl⟩
  rw [← he1, ← he2] at HB ⊢
  have SC := Lib.hid (prC_size e1 e2)
  have OC := Lib.hid (prC_one e1 e2)
  have IC := Lib.hid (infoPrC e1 e2)
  have SZ := Lib.hid (prC_size [] [])
  have ZZ := Lib.hid zeroPr
  obtain ⟨Z, hZ⟩ : ∃ Z, Z = prC [] [] := ⟨_, rfl⟩
  rw [← hZ] at SZ ZZ
  obtain ⟨C, hC⟩ : ∃ Z, Z = prC e1 e2 := ⟨_, rfl⟩
  rw [← hC] at SC OC IC HB ⊢
  obtain ⟨J, hJ⟩ : ∃ Z, Z = prK p q k := ⟨_, rfl⟩
  rw [← hJ] at P1 P2 NK ⊢
  obtain ⟨CP, hCP⟩ : ∃ Z, Z = phC p := ⟨_, rfl⟩
  obtain ⟨CQ, hCQ⟩ : ∃ Z, Z = phC q := ⟨_, rfl⟩
  obtain ⟨CT, hCT⟩ : ∃ Z, Z = phC (turnG q k) := ⟨_, rfl⟩
  rw [← hCP] at HB P1 IP
  rw [← hCQ] at HT P2 IQ
  rw [← hCT] at HT HB
  obtain ⟨o, ho⟩ : ∃ o, o = fits p q := ⟨_, rfl⟩
  rw [← ho] at HB ⊢
  have HT' := Lib.hid HT
  have HB' := Lib.hid HB
  clear HT HB he1 he2 hZ hC hJ hCP hCQ hCT ho hp hq hpq h0 h3
  have B0 := Lib.hid (Below.refl w.heap.size w)
  go_enter Try.func46, Try.ntmps46
  go_wp2_with (first
    | ((with_reducible refine at_op (Op.box 50 (.tmp 0)) ?_); refine wpList_box_row rfl 50 (.tmp 0) rfl J rfl ?_; intro w1 hr hb hz; have R1_j := Lib.hid hr; have B1 := Lib.hid (joins B0.out hb); have L1_j := Lib.hid (show w.heap.size ≤ w.heap.size from B0.out.size); clear hr hb hz)
    | ((with_reducible refine at_op (d := some 2) (Op.alloc 45) ?_); refine wpList_alloc_row rfl 45 rfl Z (fun w => ZZ.out w) ?_; intro w2 hr hb hz; have N2_j_r := Lib.hid (Nat.ne_of_lt (row_lt R1_j.out)); have N2_r_j := Lib.hid (Ne.symm N2_j_r.out); have R2_j := Lib.hid (rowB R1_j.out hb); have R2_r := Lib.hid hr; have B2 := Lib.hid (joins B1.out hb); have L2_r := Lib.hid (show w.heap.size ≤ w1.heap.size from B1.out.size); clear hr hb hz))
  refine wp_region_held_drew (S := (fun w' => World.grownBy w2 w' (some (w1.heap.size)))) (by kernel_rfl) (grownDrew (World.grownBy.refl _ _)) ?_
  obtain ⟨w3, hdw⟩ : ∃ w', w' = w2.drew := ⟨_, rfl⟩
  rw [← hdw]
  have hb : Below w2.heap.size w2 w3 := by rw [hdw]; exact belowN (Below.refl _ _) 1
  have R3_j := Lib.hid (rowB R2_j.out hb)
  have R3_r := Lib.hid (rowB R2_r.out hb)
  have B3 := Lib.hid (joins B2.out hb)
  clear hdw hb
  intro hHeld
  refine' wpAnyH_take (i := 0) (v := _) rfl (by kernel_rfl) (by kernel_rfl) (by kernel_rfl) (fun _ _ _ h => h) (Or.inl ⟨by rfl, ?hy1⟩) (by assumption) ?rest1
  case hy1 =>
    intro w h
    (try clear h)
    go_simp
    (try with_reducible rfl)
  (try simp only [Act.put, List.getElem_toArray, List.getElem_cons_zero, List.setIfInBounds_toArray, List.set_cons_zero, List.set_cons_succ])
  refine' wpAnyH_take (i := 1) (v := _) rfl (by kernel_rfl) (by kernel_rfl) (by kernel_rfl) (fun _ _ _ h => h) (Or.inl ⟨by rfl, ?hy2⟩) (by assumption) ?rest2
  case hy2 =>
    intro w h
    (try clear h)
    go_simp
    (try with_reducible rfl)
  (try simp only [Act.put, List.getElem_toArray, List.getElem_cons_zero, List.getElem_cons_succ, List.setIfInBounds_toArray, List.set_cons_zero, List.set_cons_succ])
  refine' wpAnyH_take (i := 2) (v := _) rfl (by kernel_rfl) (by kernel_rfl) (by kernel_rfl) (fun _ _ _ h => h) (yieldsPart (by rfl) 43 (.tmp 5) rfl (w.heap.size) 0 rfl J CP 50 (0, 0) _ (fun w h => (rowG R2_j.out h (fun e => N2_j_r.out (Option.some.inj e)))) P1.out Try.underlying43 rfl IP.out) (by assumption) ?rest3
  (try simp only [Act.put, List.getElem_toArray, List.getElem_cons_zero, List.getElem_cons_succ, List.setIfInBounds_toArray, List.set_cons_zero, List.set_cons_succ])
  refine' wpAnyH_take (i := 3) (v := _) rfl (by kernel_rfl) (by kernel_rfl) (by kernel_rfl) (fun _ _ _ h => h) (Or.inl ⟨by rfl, ?hy4⟩) (by assumption) ?rest4
  case hy4 =>
    intro w h
    (try clear h)
    go_simp
    (try with_reducible rfl)
  (try simp only [Act.put, List.getElem_toArray, List.getElem_cons_zero, List.getElem_cons_succ, List.setIfInBounds_toArray, List.set_cons_zero, List.set_cons_succ])
  refine' wpAnyH_take (i := 4) (v := _) rfl (by kernel_rfl) (by kernel_rfl) (by kernel_rfl) (fun _ _ _ h => h) (Or.inl ⟨by rfl, ?hy5⟩) (by assumption) ?rest5
  case hy5 =>
    intro w h
    (try clear h)
    go_simp
    (try with_reducible rfl)
  (try simp only [Act.put, List.getElem_toArray, List.getElem_cons_zero, List.getElem_cons_succ, List.setIfInBounds_toArray, List.set_cons_zero, List.set_cons_succ])
  refine' wpAnyH_take (i := 5) (v := _) rfl (by kernel_rfl) (by kernel_rfl) (by kernel_rfl) (fun _ _ _ h => h) (yieldsPart (by rfl) 43 (.tmp 8) rfl (w.heap.size) 33 rfl J CQ 50 (0, 0) _ (fun w h => (rowG R2_j.out h (fun e => N2_j_r.out (Option.some.inj e)))) P2.out Try.underlying43 rfl IQ.out) (by assumption) ?rest6
  (try simp only [Act.put, List.getElem_toArray, List.getElem_cons_zero, List.getElem_cons_succ, List.setIfInBounds_toArray, List.set_cons_zero, List.set_cons_succ])
  refine' wpAnyH_take (i := 6) (v := _) rfl (by kernel_rfl) (by kernel_rfl) (by kernel_rfl) (fun _ _ _ h => h) (Or.inl ⟨by rfl, ?hy7⟩) (by assumption) ?rest7
  case hy7 =>
    intro w h
    (try clear h)
    go_simp
    (try with_reducible rfl)
  (try simp only [Act.put, List.getElem_toArray, List.getElem_cons_zero, List.getElem_cons_succ, List.setIfInBounds_toArray, List.set_cons_zero, List.set_cons_succ])
  refine' wpAnyH_take (i := 7) (v := _) rfl (by kernel_rfl) (by kernel_rfl) (by kernel_rfl) (fun _ _ _ h => h) (Or.inl ⟨by rfl, ?hy8⟩) (by assumption) ?rest8
  case hy8 =>
    intro w h
    have c1 := rowC (rowG R2_j.out h (fun e => N2_j_r.out (Option.some.inj e))) NK.out
    (try clear h)
    go_simp
    (try with_reducible rfl)
  (try simp only [Act.put, List.getElem_toArray, List.getElem_cons_zero, List.getElem_cons_succ, List.setIfInBounds_toArray, List.set_cons_zero, List.set_cons_succ])
  refine wpAnyH_ready (rs := [8]) (by kernel_rfl) (by simp) ?_
  refine AllReadyH.cons rfl (fun K hK => ?_) AllReadyH.nil
  go_simp
  refine (HT'.out _).mono ?_
  rintro e w4 ⟨rfl, hb⟩
  have R4_j := Lib.hid (rowB R3_j.out hb)
  have R4_r := Lib.hid (rowB R3_r.out hb)
  have B4 := Lib.hid (joins B3.out hb)
  have hHeld := grownB hHeld hb
  clear hb
  refine hK.out _ _ hHeld (fun hHeld => ?_)
  clear hK K
  (try simp only [Act.put, List.getElem_toArray, List.getElem_cons_zero, List.getElem_cons_succ, List.setIfInBounds_toArray, List.set_cons_zero, List.set_cons_succ])
  refine wpAnyH_ready (rs := [9]) (by kernel_rfl) (by simp) ?_
  refine AllReadyH.cons rfl (fun K hK => ?_) AllReadyH.nil
  go_simp
  refine (HB'.out _).mono ?_
  rintro e w5 ⟨rfl, hb⟩
  have R5_j := Lib.hid (rowB R4_j.out hb)
  have R5_r := Lib.hid (rowB R4_r.out hb)
  have B5 := Lib.hid (joins B4.out hb)
  have hHeld := grownB hHeld hb
  clear hb
  refine hK.out _ _ hHeld (fun hHeld => ?_)
  clear hK K
  (try simp only [Act.put, List.getElem_toArray, List.getElem_cons_zero, List.getElem_cons_succ, List.setIfInBounds_toArray, List.set_cons_zero, List.set_cons_succ])
  refine' wpAnyH_take (i := 10) (v := _) rfl (by kernel_rfl) (by kernel_rfl) (by kernel_rfl) (fun _ _ _ h => h) (Or.inl ⟨by rfl, ?hy9⟩) (by assumption) ?rest9
  case hy9 =>
    intro w h
    (try clear h)
    go_simp
    (try with_reducible rfl)
  (try simp only [Act.put, List.getElem_toArray, List.getElem_cons_zero, List.getElem_cons_succ, List.setIfInBounds_toArray, List.set_cons_zero, List.set_cons_succ])
  refine' wpAnyH_take (i := 11) (v := _) rfl (by kernel_rfl) (by kernel_rfl) (by kernel_rfl) (fun _ _ _ h => h) (Or.inl ⟨by rfl, ?hy10⟩) (by assumption) ?rest10
  case hy10 =>
    intro w h
    (try clear h)
    go_simp
    (try with_reducible rfl)
  (try simp only [Act.put, List.getElem_toArray, List.getElem_cons_zero, List.getElem_cons_succ, List.setIfInBounds_toArray, List.set_cons_zero, List.set_cons_succ])
  refine wpAnyH_ready (rs := [12]) (by kernel_rfl) (by simp) ?_
  refine AllReadyH.cons rfl (fun K hK => ?_) AllReadyH.nil
  rw [if_pos (by rfl)]
  refine wp_put_row 45 (.tmp 2) (.tmp 14) rfl (w1.heap.size) C rfl rfl 45 Z R5_r.out 66 infoPr SC.out SZ.out OC.out w.heap.size w B5.out L2_r.out ?_
  intro w6 hr hs hb
  have R6_j := Lib.hid (hs.row R5_j.out N2_j_r.out)
  have R6_r := Lib.hid hr
  have B6 := Lib.hid hb
  have hHeld := grownS hHeld hs hb B5.out
  clear hr hs hb
  refine hK.out _ _ hHeld (fun hHeld => ?_)
  clear hK K
  (try simp only [Act.put])
  refine' wpAnyH_take (i := 13) (v := _) rfl (by kernel_rfl) (by kernel_rfl) (by kernel_rfl) (fun _ _ _ h => h) (Or.inl ⟨by rfl, ?hy11⟩) (by assumption) ?rest11
  case hy11 =>
    intro w h
    (try clear h)
    go_simp
    (try with_reducible rfl)
  (try simp only [Act.put, List.getElem_toArray, List.getElem_cons_zero, List.getElem_cons_succ, List.setIfInBounds_toArray, List.set_cons_zero, List.set_cons_succ])
  refine wpAnyH_done (by kernel_rfl) ?_ _
  go_wp2_with fail
  refine bodyPost_ret (v := .tuple #[.agg C, .bool o]) ?_ rfl ⟨rfl, B6.out⟩
  rw [results_cell_tmp (p := 2) (u := 3) (ty := 45) Try.results46]
  simp [asAddr, run_loadVar_row _ (w1.heap.size) 45 45 _ (0, 0) _ R6_r.out Try.underlying45 rfl IC.out, Result.andThen]

set_option maxHeartbeats 4000000 in
theorem made_weaving (p q : List Int) (hp : isSeq p = true) (hq : isSeq q = true) (hpq : p.length = q.length) (w : World) :
    Calls Try.prog 51 #[.agg (prC p q)] w (Ret w (.tuple #[.agg (prC (iff (fits p q) (weaveG p q)) (iff (fits p q) (weaveG p (turnG q 2)))), .bool (fits p q)])) := by
  have HB := bothSigns_interleaved p q hp hq hpq
  have P1 := Lib.hid (prC_fst p q)
  have P2 := Lib.hid (prC_snd p q)
  have IP := Lib.hid (infoPhC p)
  have IQ := Lib.hid (infoPhC q)
  obtain ⟨e1, he1⟩ : ∃ e, e = iff (fits p q) (weaveG p q) := ⟨_, rfl⟩
  obtain ⟨e2, he2⟩ : ∃ e, e = iff (fits p q) (weaveG p (turnG q 2)) := ⟨_, rfl⟩
  rw [← he1, ← he2] at HB ⊢
  have SC := Lib.hid (prC_size e1 e2)
  have OC := Lib.hid (prC_one e1 e2)
  have IC := Lib.hid (infoPrC e1 e2)
  have SZ := Lib.hid (prC_size [] [])
  have ZZ := Lib.hid zeroPr
  obtain ⟨Z, hZ⟩ : ∃ Z, Z = prC [] [] := ⟨_, rfl⟩
  rw [← hZ] at SZ ZZ
  obtain ⟨C, hC⟩ : ∃ Z, Z = prC e1 e2 := ⟨_, rfl⟩
  rw [← hC] at SC OC IC HB ⊢
  obtain ⟨J, hJ⟩ : ∃ Z, Z = prC p q := ⟨_, rfl⟩
  rw [← hJ] at P1 P2 ⊢
  obtain ⟨CP, hCP⟩ : ∃ Z, Z = phC p := ⟨_, rfl⟩
  obtain ⟨CQ, hCQ⟩ : ∃ Z, Z = phC q := ⟨_, rfl⟩
  rw [← hCP] at HB P1 IP
  rw [← hCQ] at HB P2 IQ
  obtain ⟨o, ho⟩ : ∃ o, o = fits p q := ⟨_, rfl⟩
  rw [← ho] at HB ⊢
  have HB' := Lib.hid HB
  clear HB he1 he2 hZ hC hJ hCP hCQ ho hp hq hpq
  have B0 := Lib.hid (Below.refl w.heap.size w)
  go_enter Try.func51, Try.ntmps51
  go_wp2_with (first
    | ((with_reducible refine at_op (Op.box 54 (.tmp 0)) ?_); refine wpList_box_row rfl 54 (.tmp 0) rfl J rfl ?_; intro w1 hr hb hz; have R1_j := Lib.hid hr; have B1 := Lib.hid (joins B0.out hb); have L1_j := Lib.hid (show w.heap.size ≤ w.heap.size from B0.out.size); clear hr hb hz)
    | ((with_reducible refine at_op (d := some 2) (Op.alloc 45) ?_); refine wpList_alloc_row rfl 45 rfl Z (fun w => ZZ.out w) ?_; intro w2 hr hb hz; have N2_j_r := Lib.hid (Nat.ne_of_lt (row_lt R1_j.out)); have N2_r_j := Lib.hid (Ne.symm N2_j_r.out); have R2_j := Lib.hid (rowB R1_j.out hb); have R2_r := Lib.hid hr; have B2 := Lib.hid (joins B1.out hb); have L2_r := Lib.hid (show w.heap.size ≤ w1.heap.size from B1.out.size); clear hr hb hz)
    | ((with_reducible refine at_op (Op.load 43 (.tmp 5)) ?_); refine wpList_load_part rfl 43 (.tmp 5) rfl (w.heap.size) 0 rfl J CP 54 (0, 0) _ R2_j.out P1.out Try.underlying43 rfl IP.out ?_)
    | ((with_reducible refine at_op (Op.load 43 (.tmp 8)) ?_); refine wpList_load_part rfl 43 (.tmp 8) rfl (w.heap.size) 33 rfl J CQ 54 (0, 0) _ R2_j.out P2.out Try.underlying43 rfl IQ.out ?_))
  refine (HB'.out _).mono ?_
  rintro e w3 ⟨rfl, hb⟩
  have R3_j := Lib.hid (rowB R2_j.out hb)
  have R3_r := Lib.hid (rowB R2_r.out hb)
  have B3 := Lib.hid (joins B2.out hb)
  clear hb
  go_wp2_with ((with_reducible refine at_op (Op.store 45 (.tmp 2) (.tmp 11)) ?_); refine wpList_put_row rfl 45 (.tmp 2) (.tmp 11) rfl (w1.heap.size) C rfl rfl 45 Z R3_r.out 66 infoPr SC.out SZ.out OC.out w.heap.size w B3.out L2_r.out ?_; intro w4 hr hs hb; have R4_j := Lib.hid (hs.row R3_j.out N2_j_r.out); have R4_r := Lib.hid hr; have B4 := Lib.hid hb; clear hr hs hb)
  refine bodyPost_ret (v := .tuple #[.agg C, .bool o]) ?_ rfl ⟨rfl, B4.out⟩
  rw [results_cell_tmp (p := 2) (u := 3) (ty := 45) Try.results51]
  simp [asAddr, run_loadVar_row _ (w1.heap.size) 45 45 _ (0, 0) _ R4_r.out Try.underlying45 rfl IC.out, Result.andThen]

set_option maxHeartbeats 4000000 in
theorem made_mating (p q : List Int) (hp : isSeq p = true) (hq : isSeq q = true) (w : World) :
    Calls Try.prog 53 #[.agg (prC p q)] w (Ret w (.tuple #[.agg (prC (barG (backG q)) (turnG (barG (backG p)) 2)), .bool true])) := by
  have HQ1 := Lib.hid (backwardsC q hq)
  have HQ2 := Lib.hid (conjugateC (backG q) (backG_seq q hq))
  have HP1 := Lib.hid (backwardsC p hp)
  have HP2 := Lib.hid (conjugateC (backG p) (backG_seq p hp))
  have HP3 := Lib.hid (turnedC (barG (backG p)) 2 (barG_seq _ (backG_seq p hp)) (by omega) (by omega))
  have P1 := Lib.hid (prC_fst p q)
  have P2 := Lib.hid (prC_snd p q)
  have IP := Lib.hid (infoPhC p)
  have IQ := Lib.hid (infoPhC q)
  obtain ⟨e1, he1⟩ : ∃ e, e = barG (backG q) := ⟨_, rfl⟩
  obtain ⟨e2, he2⟩ : ∃ e, e = turnG (barG (backG p)) 2 := ⟨_, rfl⟩
  rw [← he1, ← he2]
  rw [← he1] at HQ2
  rw [← he2] at HP3
  have S1 := Lib.hid (phC_size e1)
  have S2 := Lib.hid (phC_size e2)
  have O1 := Lib.hid (phC_one e1)
  have O2 := Lib.hid (phC_one e2)
  have I1 := Lib.hid (infoPhC e1)
  have I2 := Lib.hid (infoPhC e2)
  have HBU := Lib.hid (built_pair (phC e1) (phC e2) S1.out S2.out)
  rw [show phC e1 ++ phC e2 = prC e1 e2 from rfl] at HBU
  have SC := Lib.hid (prC_size e1 e2)
  have OC := Lib.hid (prC_one e1 e2)
  have IC := Lib.hid (infoPrC e1 e2)
  have SZ := Lib.hid (prC_size [] [])
  have ZZ := Lib.hid zeroPr
  obtain ⟨Z, hZ⟩ : ∃ Z, Z = prC [] [] := ⟨_, rfl⟩
  rw [← hZ] at SZ ZZ
  obtain ⟨C, hC⟩ : ∃ Z, Z = prC e1 e2 := ⟨_, rfl⟩
  rw [← hC] at SC OC IC HBU ⊢
  obtain ⟨J, hJ⟩ : ∃ Z, Z = prC p q := ⟨_, rfl⟩
  rw [← hJ] at P1 P2 ⊢
  obtain ⟨CP, hCP⟩ : ∃ Z, Z = phC p := ⟨_, rfl⟩
  obtain ⟨CQ, hCQ⟩ : ∃ Z, Z = phC q := ⟨_, rfl⟩
  obtain ⟨C1, hC1⟩ : ∃ Z, Z = phC e1 := ⟨_, rfl⟩
  obtain ⟨C2, hC2⟩ : ∃ Z, Z = phC e2 := ⟨_, rfl⟩
  obtain ⟨CB, hCB⟩ : ∃ Z, Z = phC (backG q) := ⟨_, rfl⟩
  obtain ⟨CD, hCD⟩ : ∃ Z, Z = phC (backG p) := ⟨_, rfl⟩
  obtain ⟨CE, hCE⟩ : ∃ Z, Z = phC (barG (backG p)) := ⟨_, rfl⟩
  rw [← hCP] at HP1 P1 IP
  rw [← hCQ] at HQ1 P2 IQ
  rw [← hC1] at HQ2 S1 O1 I1 HBU
  rw [← hC2] at HP3 S2 O2 I2 HBU
  rw [← hCB] at HQ1 HQ2
  rw [← hCD] at HP1 HP2
  rw [← hCE] at HP2 HP3
  clear he1 he2 hZ hC hJ hCP hCQ hC1 hC2 hCB hCD hCE hp hq
  have B0 := Lib.hid (Below.refl w.heap.size w)
  go_enter Try.func53, Try.ntmps53
  go_wp2_with (first
    | ((with_reducible refine at_op (Op.box 55 (.tmp 0)) ?_); refine wpList_box_row rfl 55 (.tmp 0) rfl J rfl ?_; intro w1 hr hb hz; have R1_j := Lib.hid hr; have B1 := Lib.hid (joins B0.out hb); have L1_j := Lib.hid (show w.heap.size ≤ w.heap.size from B0.out.size); clear hr hb hz)
    | ((with_reducible refine at_op (d := some 2) (Op.alloc 45) ?_); refine wpList_alloc_row rfl 45 rfl Z (fun w => ZZ.out w) ?_; intro w2 hr hb hz; have N2_j_r := Lib.hid (Nat.ne_of_lt (row_lt R1_j.out)); have N2_r_j := Lib.hid (Ne.symm N2_j_r.out); have R2_j := Lib.hid (rowB R1_j.out hb); have R2_r := Lib.hid hr; have B2 := Lib.hid (joins B1.out hb); have L2_r := Lib.hid (show w.heap.size ≤ w1.heap.size from B1.out.size); clear hr hb hz)
    | ((with_reducible refine at_op (Op.load 43 (.tmp 7)) ?_); refine wpList_load_part rfl 43 (.tmp 7) rfl (w.heap.size) 33 rfl J CQ 55 (0, 0) _ R2_j.out P2.out Try.underlying43 rfl IQ.out ?_))
  refine (HQ1.out _).mono ?_
  rintro e w3 ⟨rfl, hb⟩
  have R3_j := Lib.hid (rowB R2_j.out hb)
  have R3_r := Lib.hid (rowB R2_r.out hb)
  have B3 := Lib.hid (joins B2.out hb)
  clear hb
  go_wp2_with fail
  refine (HQ2.out _).mono ?_
  rintro e w4 ⟨rfl, hb⟩
  have R4_j := Lib.hid (rowB R3_j.out hb)
  have R4_r := Lib.hid (rowB R3_r.out hb)
  have B4 := Lib.hid (joins B3.out hb)
  clear hb
  go_wp2_with (first
    | ((with_reducible refine at_op (d := some 4) (Op.alloc 43) ?_); refine wpList_alloc_row rfl 43 rfl (phA z32 0) zeroPh ?_; intro w5 hr hb hz; have N5_j_x := Lib.hid (Nat.ne_of_lt (row_lt R4_j.out)); have N5_x_j := Lib.hid (Ne.symm N5_j_x.out); have N5_r_x := Lib.hid (Nat.ne_of_lt (row_lt R4_r.out)); have N5_x_r := Lib.hid (Ne.symm N5_r_x.out); have R5_j := Lib.hid (rowB R4_j.out hb); have R5_r := Lib.hid (rowB R4_r.out hb); have R5_x := Lib.hid hr; have B5 := Lib.hid (joins B4.out hb); have L5_x := Lib.hid (show w.heap.size ≤ w4.heap.size from B4.out.size); clear hr hb hz)
    | ((with_reducible refine at_op (Op.store 43 (.tmp 4) (.tmp 10)) ?_); refine wpList_put_row rfl 43 (.tmp 4) (.tmp 10) rfl (w4.heap.size) C1 rfl rfl 43 (phA z32 0) R5_x.out 33 infoPh S1.out (phA_size _ _ z32_length) O1.out w.heap.size w B5.out L5_x.out ?_; intro w6 hr hs hb; have R6_j := Lib.hid (hs.row R5_j.out N5_j_x.out); have R6_r := Lib.hid (hs.row R5_r.out N5_r_x.out); have R6_x := Lib.hid hr; have B6 := Lib.hid hb; clear hr hs hb)
    | ((with_reducible refine at_op (Op.load 43 (.tmp 12)) ?_); refine wpList_load_part rfl 43 (.tmp 12) rfl (w.heap.size) 0 rfl J CP 55 (0, 0) _ R6_j.out P1.out Try.underlying43 rfl IP.out ?_))
  refine (HP1.out _).mono ?_
  rintro e w7 ⟨rfl, hb⟩
  have R7_j := Lib.hid (rowB R6_j.out hb)
  have R7_r := Lib.hid (rowB R6_r.out hb)
  have R7_x := Lib.hid (rowB R6_x.out hb)
  have B7 := Lib.hid (joins B6.out hb)
  clear hb
  go_wp2_with fail
  refine (HP2.out _).mono ?_
  rintro e w8 ⟨rfl, hb⟩
  have R8_j := Lib.hid (rowB R7_j.out hb)
  have R8_r := Lib.hid (rowB R7_r.out hb)
  have R8_x := Lib.hid (rowB R7_x.out hb)
  have B8 := Lib.hid (joins B7.out hb)
  clear hb
  go_wp2_with fail
  refine (HP3.out _).mono ?_
  rintro e w9 ⟨rfl, hb⟩
  have R9_j := Lib.hid (rowB R8_j.out hb)
  have R9_r := Lib.hid (rowB R8_r.out hb)
  have R9_x := Lib.hid (rowB R8_x.out hb)
  have B9 := Lib.hid (joins B8.out hb)
  clear hb
  go_wp2_with (first
    | ((with_reducible refine at_op (d := some 5) (Op.alloc 43) ?_); refine wpList_alloc_row rfl 43 rfl (phA z32 0) zeroPh ?_; intro w10 hr hb hz; have N10_r_y := Lib.hid (Nat.ne_of_lt (row_lt R9_r.out)); have N10_y_r := Lib.hid (Ne.symm N10_r_y.out); have N10_x_y := Lib.hid (Nat.ne_of_lt (row_lt R9_x.out)); have N10_y_x := Lib.hid (Ne.symm N10_x_y.out); have R10_r := Lib.hid (rowB R9_r.out hb); have R10_x := Lib.hid (rowB R9_x.out hb); have R10_y := Lib.hid hr; have B10 := Lib.hid (joins B9.out hb); have L10_y := Lib.hid (show w.heap.size ≤ w9.heap.size from B9.out.size); clear hr hb hz)
    | ((with_reducible refine at_op (Op.store 43 (.tmp 5) (.tmp 16)) ?_); refine wpList_put_row rfl 43 (.tmp 5) (.tmp 16) rfl (w9.heap.size) C2 rfl rfl 43 (phA z32 0) R10_y.out 33 infoPh S2.out (phA_size _ _ z32_length) O2.out w.heap.size w B10.out L10_y.out ?_; intro w11 hr hs hb; have R11_r := Lib.hid (hs.row R10_r.out N10_r_y.out); have R11_x := Lib.hid (hs.row R10_x.out N10_x_y.out); have R11_y := Lib.hid hr; have B11 := Lib.hid hb; clear hr hs hb)
    | ((with_reducible refine at_op (Op.load 43 (.tmp 4)) ?_); refine wpList_load_part rfl 43 (.tmp 4) rfl (w4.heap.size) 0 rfl C1 C1 43 (0, 0) _ R11_x.out (Part.self _) Try.underlying43 rfl I1.out ?_)
    | ((with_reducible refine at_op (Op.load 43 (.tmp 5)) ?_); refine wpList_load_part rfl 43 (.tmp 5) rfl (w9.heap.size) 0 rfl C2 C2 43 (0, 0) _ R11_y.out (Part.self _) Try.underlying43 rfl I2.out ?_)
    | ((with_reducible refine at_op (Op.build 45 #[(0, .tmp 17), (1, .tmp 18)]) ?_); refine wpList_build_row rfl 45 [(0, .tmp 17), (1, .tmp 18)] rfl C HBU.out ?_)
    | ((with_reducible refine at_op (Op.store 45 (.tmp 2) (.tmp 19)) ?_); refine wpList_put_row rfl 45 (.tmp 2) (.tmp 19) rfl (w1.heap.size) C rfl rfl 45 Z R11_r.out 66 infoPr SC.out SZ.out OC.out w.heap.size w B11.out L2_r.out ?_; intro w12 hr hs hb; have R12_x := Lib.hid (hs.row R11_x.out N5_x_r.out); have R12_y := Lib.hid (hs.row R11_y.out N10_y_r.out); have R12_r := Lib.hid hr; have B12 := Lib.hid hb; clear hr hs hb))
  refine bodyPost_ret (v := .tuple #[.agg C, .bool true]) ?_ rfl ⟨rfl, B12.out⟩
  rw [results_cell_tmp (p := 2) (u := 3) (ty := 45) Try.results53]
  simp [asAddr, run_loadVar_row _ (w1.heap.size) 45 45 _ (0, 0) _ R12_r.out Try.underlying45 rfl IC.out, Result.andThen]

set_option maxHeartbeats 4000000 in
theorem made_climbing (p q : List Int) (k : Int) (hp : isSeq p = true) (hq : isSeq q = true) (h0 : 0 ≤ k) (h3 : k ≤ 3) (w : World) :
    Calls Try.prog 55 #[.agg (prK p q k)] w (Ret w (.tuple #[.agg (prC (climbG p k) (climbG q k)), .bool true])) := by
  have H1 := Lib.hid (climbedC p k hp h0 h3)
  have H2 := Lib.hid (climbedC q k hq h0 h3)
  have P1 := Lib.hid (prK_fst p q k)
  have P2 := Lib.hid (prK_snd p q k)
  have NK := Lib.hid (prK_num p q k)
  have IP := Lib.hid (infoPhC p)
  have IQ := Lib.hid (infoPhC q)
  obtain ⟨e1, he1⟩ : ∃ e, e = climbG p k := ⟨_, rfl⟩
  obtain ⟨e2, he2⟩ : ∃ e, e = climbG q k := ⟨_, rfl⟩
  rw [← he1, ← he2]
  rw [← he1] at H1
  rw [← he2] at H2
  have S1 := Lib.hid (phC_size e1)
  have S2 := Lib.hid (phC_size e2)
  have HBU := Lib.hid (built_pair (phC e1) (phC e2) S1.out S2.out)
  rw [show phC e1 ++ phC e2 = prC e1 e2 from rfl] at HBU
  have SC := Lib.hid (prC_size e1 e2)
  have OC := Lib.hid (prC_one e1 e2)
  have IC := Lib.hid (infoPrC e1 e2)
  have SZ := Lib.hid (prC_size [] [])
  have ZZ := Lib.hid zeroPr
  obtain ⟨Z, hZ⟩ : ∃ Z, Z = prC [] [] := ⟨_, rfl⟩
  rw [← hZ] at SZ ZZ
  obtain ⟨C, hC⟩ : ∃ Z, Z = prC e1 e2 := ⟨_, rfl⟩
  rw [← hC] at SC OC IC HBU ⊢
  obtain ⟨J, hJ⟩ : ∃ Z, Z = prK p q k := ⟨_, rfl⟩
  rw [← hJ] at P1 P2 NK ⊢
  obtain ⟨CP, hCP⟩ : ∃ Z, Z = phC p := ⟨_, rfl⟩
  obtain ⟨CQ, hCQ⟩ : ∃ Z, Z = phC q := ⟨_, rfl⟩
  obtain ⟨C1, hC1⟩ : ∃ Z, Z = phC e1 := ⟨_, rfl⟩
  obtain ⟨C2, hC2⟩ : ∃ Z, Z = phC e2 := ⟨_, rfl⟩
  rw [← hCP] at H1 P1 IP
  rw [← hCQ] at H2 P2 IQ
  rw [← hC1] at H1 HBU
  rw [← hC2] at H2 HBU
  clear S1 S2 he1 he2 hZ hC hJ hCP hCQ hC1 hC2 hp hq h0 h3
  have B0 := Lib.hid (Below.refl w.heap.size w)
  go_enter Try.func55, Try.ntmps55
  go_wp2_with (first
    | ((with_reducible refine at_op (Op.box 57 (.tmp 0)) ?_); refine wpList_box_row rfl 57 (.tmp 0) rfl J rfl ?_; intro w1 hr hb hz; have R1_j := Lib.hid hr; have B1 := Lib.hid (joins B0.out hb); have L1_j := Lib.hid (show w.heap.size ≤ w.heap.size from B0.out.size); clear hr hb hz)
    | ((with_reducible refine at_op (d := some 2) (Op.alloc 45) ?_); refine wpList_alloc_row rfl 45 rfl Z (fun w => ZZ.out w) ?_; intro w2 hr hb hz; have N2_j_r := Lib.hid (Nat.ne_of_lt (row_lt R1_j.out)); have N2_r_j := Lib.hid (Ne.symm N2_j_r.out); have R2_j := Lib.hid (rowB R1_j.out hb); have R2_r := Lib.hid hr; have B2 := Lib.hid (joins B1.out hb); have L2_r := Lib.hid (show w.heap.size ≤ w1.heap.size from B1.out.size); clear hr hb hz))
  refine wp_region_held_drew (S := (fun w' => World.grownBy w2 w' (some (w1.heap.size)))) (by kernel_rfl) (grownDrew (World.grownBy.refl _ _)) ?_
  obtain ⟨w3, hdw⟩ : ∃ w', w' = w2.drew := ⟨_, rfl⟩
  rw [← hdw]
  have hb : Below w2.heap.size w2 w3 := by rw [hdw]; exact belowN (Below.refl _ _) 1
  have R3_j := Lib.hid (rowB R2_j.out hb)
  have R3_r := Lib.hid (rowB R2_r.out hb)
  have B3 := Lib.hid (joins B2.out hb)
  clear hdw hb
  intro hHeld
  refine' wpAnyH_take (i := 0) (v := _) rfl (by kernel_rfl) (by kernel_rfl) (by kernel_rfl) (fun _ _ _ h => h) (Or.inl ⟨by rfl, ?hy12⟩) (by assumption) ?rest12
  case hy12 =>
    intro w h
    (try clear h)
    go_simp
    (try with_reducible rfl)
  (try simp only [Act.put, List.getElem_toArray, List.getElem_cons_zero, List.setIfInBounds_toArray, List.set_cons_zero, List.set_cons_succ])
  refine' wpAnyH_take (i := 1) (v := _) rfl (by kernel_rfl) (by kernel_rfl) (by kernel_rfl) (fun _ _ _ h => h) (Or.inl ⟨by rfl, ?hy13⟩) (by assumption) ?rest13
  case hy13 =>
    intro w h
    (try clear h)
    go_simp
    (try with_reducible rfl)
  (try simp only [Act.put, List.getElem_toArray, List.getElem_cons_zero, List.getElem_cons_succ, List.setIfInBounds_toArray, List.set_cons_zero, List.set_cons_succ])
  refine' wpAnyH_take (i := 2) (v := _) rfl (by kernel_rfl) (by kernel_rfl) (by kernel_rfl) (fun _ _ _ h => h) (yieldsPart (by rfl) 43 (.tmp 5) rfl (w.heap.size) 0 rfl J CP 57 (0, 0) _ (fun w h => (rowG R2_j.out h (fun e => N2_j_r.out (Option.some.inj e)))) P1.out Try.underlying43 rfl IP.out) (by assumption) ?rest14
  (try simp only [Act.put, List.getElem_toArray, List.getElem_cons_zero, List.getElem_cons_succ, List.setIfInBounds_toArray, List.set_cons_zero, List.set_cons_succ])
  refine' wpAnyH_take (i := 3) (v := _) rfl (by kernel_rfl) (by kernel_rfl) (by kernel_rfl) (fun _ _ _ h => h) (Or.inl ⟨by rfl, ?hy15⟩) (by assumption) ?rest15
  case hy15 =>
    intro w h
    (try clear h)
    go_simp
    (try with_reducible rfl)
  (try simp only [Act.put, List.getElem_toArray, List.getElem_cons_zero, List.getElem_cons_succ, List.setIfInBounds_toArray, List.set_cons_zero, List.set_cons_succ])
  refine' wpAnyH_take (i := 4) (v := _) rfl (by kernel_rfl) (by kernel_rfl) (by kernel_rfl) (fun _ _ _ h => h) (Or.inl ⟨by rfl, ?hy16⟩) (by assumption) ?rest16
  case hy16 =>
    intro w h
    have c1 := rowC (rowG R2_j.out h (fun e => N2_j_r.out (Option.some.inj e))) NK.out
    (try clear h)
    go_simp
    (try with_reducible rfl)
  (try simp only [Act.put, List.getElem_toArray, List.getElem_cons_zero, List.getElem_cons_succ, List.setIfInBounds_toArray, List.set_cons_zero, List.set_cons_succ])
  refine' wpAnyH_take (i := 6) (v := _) rfl (by kernel_rfl) (by kernel_rfl) (by kernel_rfl) (fun _ _ _ h => h) (Or.inl ⟨by rfl, ?hy17⟩) (by assumption) ?rest17
  case hy17 =>
    intro w h
    (try clear h)
    go_simp
    (try with_reducible rfl)
  (try simp only [Act.put, List.getElem_toArray, List.getElem_cons_zero, List.getElem_cons_succ, List.setIfInBounds_toArray, List.set_cons_zero, List.set_cons_succ])
  refine' wpAnyH_take (i := 7) (v := _) rfl (by kernel_rfl) (by kernel_rfl) (by kernel_rfl) (fun _ _ _ h => h) (Or.inl ⟨by rfl, ?hy18⟩) (by assumption) ?rest18
  case hy18 =>
    intro w h
    (try clear h)
    go_simp
    (try with_reducible rfl)
  (try simp only [Act.put, List.getElem_toArray, List.getElem_cons_zero, List.getElem_cons_succ, List.setIfInBounds_toArray, List.set_cons_zero, List.set_cons_succ])
  refine' wpAnyH_take (i := 8) (v := _) rfl (by kernel_rfl) (by kernel_rfl) (by kernel_rfl) (fun _ _ _ h => h) (yieldsPart (by rfl) 43 (.tmp 11) rfl (w.heap.size) 33 rfl J CQ 57 (0, 0) _ (fun w h => (rowG R2_j.out h (fun e => N2_j_r.out (Option.some.inj e)))) P2.out Try.underlying43 rfl IQ.out) (by assumption) ?rest19
  (try simp only [Act.put, List.getElem_toArray, List.getElem_cons_zero, List.getElem_cons_succ, List.setIfInBounds_toArray, List.set_cons_zero, List.set_cons_succ])
  refine' wpAnyH_take (i := 9) (v := _) rfl (by kernel_rfl) (by kernel_rfl) (by kernel_rfl) (fun _ _ _ h => h) (Or.inl ⟨by rfl, ?hy20⟩) (by assumption) ?rest20
  case hy20 =>
    intro w h
    (try clear h)
    go_simp
    (try with_reducible rfl)
  (try simp only [Act.put, List.getElem_toArray, List.getElem_cons_zero, List.getElem_cons_succ, List.setIfInBounds_toArray, List.set_cons_zero, List.set_cons_succ])
  refine' wpAnyH_take (i := 10) (v := _) rfl (by kernel_rfl) (by kernel_rfl) (by kernel_rfl) (fun _ _ _ h => h) (Or.inl ⟨by rfl, ?hy21⟩) (by assumption) ?rest21
  case hy21 =>
    intro w h
    have c1 := rowC (rowG R2_j.out h (fun e => N2_j_r.out (Option.some.inj e))) NK.out
    (try clear h)
    go_simp
    (try with_reducible rfl)
  (try simp only [Act.put, List.getElem_toArray, List.getElem_cons_zero, List.getElem_cons_succ, List.setIfInBounds_toArray, List.set_cons_zero, List.set_cons_succ])
  refine wpAnyH_ready (rs := [5]) (by kernel_rfl) (by simp) ?_
  refine AllReadyH.cons rfl (fun K hK => ?_) AllReadyH.nil
  go_simp
  refine (H1.out _).mono ?_
  rintro e w4 ⟨rfl, hb⟩
  have R4_j := Lib.hid (rowB R3_j.out hb)
  have R4_r := Lib.hid (rowB R3_r.out hb)
  have B4 := Lib.hid (joins B3.out hb)
  have hHeld := grownB hHeld hb
  clear hb
  refine hK.out _ _ hHeld (fun hHeld => ?_)
  clear hK K
  (try simp only [Act.put, List.getElem_toArray, List.getElem_cons_zero, List.getElem_cons_succ, List.setIfInBounds_toArray, List.set_cons_zero, List.set_cons_succ])
  refine wpAnyH_ready (rs := [11]) (by kernel_rfl) (by simp) ?_
  refine AllReadyH.cons rfl (fun K hK => ?_) AllReadyH.nil
  go_simp
  refine (H2.out _).mono ?_
  rintro e w5 ⟨rfl, hb⟩
  have R5_j := Lib.hid (rowB R4_j.out hb)
  have R5_r := Lib.hid (rowB R4_r.out hb)
  have B5 := Lib.hid (joins B4.out hb)
  have hHeld := grownB hHeld hb
  clear hb
  refine hK.out _ _ hHeld (fun hHeld => ?_)
  clear hK K
  (try simp only [Act.put, List.getElem_toArray, List.getElem_cons_zero, List.getElem_cons_succ, List.setIfInBounds_toArray, List.set_cons_zero, List.set_cons_succ])
  refine' wpAnyH_take (i := 12) (v := _) rfl (by kernel_rfl) (by kernel_rfl) (by kernel_rfl) (fun _ _ _ h => h) (yieldsBuild (by rfl) 45 [(0, .tmp 9), (1, .tmp 15)] rfl C HBU.out) (by assumption) ?rest22
  (try simp only [Act.put, List.getElem_toArray, List.getElem_cons_zero, List.getElem_cons_succ, List.setIfInBounds_toArray, List.set_cons_zero, List.set_cons_succ])
  refine wpAnyH_ready (rs := [13]) (by kernel_rfl) (by simp) ?_
  refine AllReadyH.cons rfl (fun K hK => ?_) AllReadyH.nil
  rw [if_pos (by rfl)]
  refine wp_put_row 45 (.tmp 2) (.tmp 16) rfl (w1.heap.size) C rfl rfl 45 Z R5_r.out 66 infoPr SC.out SZ.out OC.out w.heap.size w B5.out L2_r.out ?_
  intro w6 hr hs hb
  have R6_j := Lib.hid (hs.row R5_j.out N2_j_r.out)
  have R6_r := Lib.hid hr
  have B6 := Lib.hid hb
  have hHeld := grownS hHeld hs hb B5.out
  clear hr hs hb
  refine hK.out _ _ hHeld (fun hHeld => ?_)
  clear hK K
  (try simp only [Act.put])
  refine' wpAnyH_take (i := 14) (v := _) rfl (by kernel_rfl) (by kernel_rfl) (by kernel_rfl) (fun _ _ _ h => h) (Or.inl ⟨by rfl, ?hy23⟩) (by assumption) ?rest23
  case hy23 =>
    intro w h
    (try clear h)
    go_simp
    (try with_reducible rfl)
  (try simp only [Act.put, List.getElem_toArray, List.getElem_cons_zero, List.getElem_cons_succ, List.setIfInBounds_toArray, List.set_cons_zero, List.set_cons_succ])
  refine wpAnyH_done (by kernel_rfl) ?_ _
  go_wp2_with fail
  refine bodyPost_ret (v := .tuple #[.agg C, .bool true]) ?_ rfl ⟨rfl, B6.out⟩
  rw [results_cell_tmp (p := 2) (u := 3) (ty := 45) Try.results55]
  simp [asAddr, run_loadVar_row _ (w1.heap.size) 45 45 _ (0, 0) _ R6_r.out Try.underlying45 rfl IC.out, Result.andThen]

theorem prQ_11 (p q r s : List Int) : Part (prQ p q r s) 0 (phC p) := (prC_fst p q).left
theorem prQ_12 (p q r s : List Int) : Part (prQ p q r s) 33 (phC q) := (prC_snd p q).left
theorem prQ_21 (p q r s : List Int) : Part (prQ p q r s) 66 (phC r) := (prC_fst r s).right (prC_size p q) rfl
theorem prQ_22 (p q r s : List Int) : Part (prQ p q r s) 99 (phC s) := (prC_snd r s).right (prC_size p q) rfl
set_option maxHeartbeats 4000000 in
theorem made_joiningMates (p q r s : List Int) (hp : isSeq p = true) (hq : isSeq q = true) (hr : isSeq r = true) (hs : isSeq s = true) (hpr : p.length = r.length) (hqs : q.length = s.length) (w : World) :
    Calls Try.prog 57 #[.agg (prQ p q r s)] w (Ret w (.tuple #[.agg (prC (iff (fits p r) (p ++ r)) (iff (fits q s) (q ++ s))), .bool (fits p r && fits q s)])) := by
  have HB := bothMade_joined p r q s hp hr hq hs hpr hqs
  have P1 := Lib.hid (prQ_11 p q r s)
  have P2 := Lib.hid (prQ_12 p q r s)
  have P3 := Lib.hid (prQ_21 p q r s)
  have P4 := Lib.hid (prQ_22 p q r s)
  have IP := Lib.hid (infoPhC p)
  have IQ := Lib.hid (infoPhC q)
  have IR := Lib.hid (infoPhC r)
  have IS' := Lib.hid (infoPhC s)
  obtain ⟨e1, he1⟩ : ∃ e, e = iff (fits p r) (p ++ r) := ⟨_, rfl⟩
  obtain ⟨e2, he2⟩ : ∃ e, e = iff (fits q s) (q ++ s) := ⟨_, rfl⟩
  rw [← he1, ← he2] at HB ⊢
  have SC := Lib.hid (prC_size e1 e2)
  have OC := Lib.hid (prC_one e1 e2)
  have IC := Lib.hid (infoPrC e1 e2)
  have SZ := Lib.hid (prC_size [] [])
  have ZZ := Lib.hid zeroPr
  obtain ⟨Z, hZ⟩ : ∃ Z, Z = prC [] [] := ⟨_, rfl⟩
  rw [← hZ] at SZ ZZ
  obtain ⟨C, hC⟩ : ∃ Z, Z = prC e1 e2 := ⟨_, rfl⟩
  rw [← hC] at SC OC IC HB ⊢
  obtain ⟨J, hJ⟩ : ∃ Z, Z = prQ p q r s := ⟨_, rfl⟩
  rw [← hJ] at P1 P2 P3 P4 ⊢
  obtain ⟨CP, hCP⟩ : ∃ Z, Z = phC p := ⟨_, rfl⟩
  obtain ⟨CQ, hCQ⟩ : ∃ Z, Z = phC q := ⟨_, rfl⟩
  obtain ⟨CR, hCR⟩ : ∃ Z, Z = phC r := ⟨_, rfl⟩
  obtain ⟨CS, hCS⟩ : ∃ Z, Z = phC s := ⟨_, rfl⟩
  rw [← hCP] at HB P1 IP
  rw [← hCQ] at HB P2 IQ
  rw [← hCR] at HB P3 IR
  rw [← hCS] at HB P4 IS'
  obtain ⟨o, ho⟩ : ∃ o, o = (fits p r && fits q s) := ⟨_, rfl⟩
  rw [← ho] at HB ⊢
  have HB' := Lib.hid HB
  clear HB he1 he2 hZ hC hJ hCP hCQ hCR hCS ho hp hq hr hs hpr hqs
  have B0 := Lib.hid (Below.refl w.heap.size w)
  go_enter Try.func57, Try.ntmps57
  go_wp2_with (first
    | ((with_reducible refine at_op (Op.box 59 (.tmp 0)) ?_); refine wpList_box_row rfl 59 (.tmp 0) rfl J rfl ?_; intro w1 hr hb hz; have R1_j := Lib.hid hr; have B1 := Lib.hid (joins B0.out hb); have L1_j := Lib.hid (show w.heap.size ≤ w.heap.size from B0.out.size); clear hr hb hz)
    | ((with_reducible refine at_op (d := some 2) (Op.alloc 45) ?_); refine wpList_alloc_row rfl 45 rfl Z (fun w => ZZ.out w) ?_; intro w2 hr hb hz; have N2_j_r := Lib.hid (Nat.ne_of_lt (row_lt R1_j.out)); have N2_r_j := Lib.hid (Ne.symm N2_j_r.out); have R2_j := Lib.hid (rowB R1_j.out hb); have R2_r := Lib.hid hr; have B2 := Lib.hid (joins B1.out hb); have L2_r := Lib.hid (show w.heap.size ≤ w1.heap.size from B1.out.size); clear hr hb hz)
    | ((with_reducible refine at_op (Op.load 43 (.tmp 5)) ?_); refine wpList_load_part rfl 43 (.tmp 5) rfl (w.heap.size) 0 rfl J CP 59 (0, 0) _ R2_j.out P1.out Try.underlying43 rfl IP.out ?_)
    | ((with_reducible refine at_op (Op.load 43 (.tmp 8)) ?_); refine wpList_load_part rfl 43 (.tmp 8) rfl (w.heap.size) 66 rfl J CR 59 (0, 0) _ R2_j.out P3.out Try.underlying43 rfl IR.out ?_)
    | ((with_reducible refine at_op (Op.load 43 (.tmp 11)) ?_); refine wpList_load_part rfl 43 (.tmp 11) rfl (w.heap.size) 33 rfl J CQ 59 (0, 0) _ R2_j.out P2.out Try.underlying43 rfl IQ.out ?_)
    | ((with_reducible refine at_op (Op.load 43 (.tmp 14)) ?_); refine wpList_load_part rfl 43 (.tmp 14) rfl (w.heap.size) 99 rfl J CS 59 (0, 0) _ R2_j.out P4.out Try.underlying43 rfl IS'.out ?_))
  refine (HB'.out _).mono ?_
  rintro e w3 ⟨rfl, hb⟩
  have R3_j := Lib.hid (rowB R2_j.out hb)
  have R3_r := Lib.hid (rowB R2_r.out hb)
  have B3 := Lib.hid (joins B2.out hb)
  clear hb
  go_wp2_with ((with_reducible refine at_op (Op.store 45 (.tmp 2) (.tmp 17)) ?_); refine wpList_put_row rfl 45 (.tmp 2) (.tmp 17) rfl (w1.heap.size) C rfl rfl 45 Z R3_r.out 66 infoPr SC.out SZ.out OC.out w.heap.size w B3.out L2_r.out ?_; intro w4 hr hs hb; have R4_j := Lib.hid (hs.row R3_j.out N2_j_r.out); have R4_r := Lib.hid hr; have B4 := Lib.hid hb; clear hr hs hb)
  refine bodyPost_ret (v := .tuple #[.agg C, .bool o]) ?_ rfl ⟨rfl, B4.out⟩
  rw [results_cell_tmp (p := 2) (u := 3) (ty := 45) Try.results57]
  simp [asAddr, run_loadVar_row _ (w1.heap.size) 45 45 _ (0, 0) _ R4_r.out Try.underlying45 rfl IC.out, Result.andThen]
end Go.Proofs.Ytcpeikkkegpdhab
