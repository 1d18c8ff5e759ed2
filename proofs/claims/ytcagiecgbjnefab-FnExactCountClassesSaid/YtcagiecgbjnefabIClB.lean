/- The program's move.of, move.back. -/
import Derived.Test.YtcagiecgbjnefabIClA
namespace Go.Proofs.Ytcagiecgbjnefab
set_option maxRecDepth 100000
open Go.RowKit

theorem infoMv : (Try.prog.info? 71).map (·.size) = some 4 := by kernel_rfl
set_option maxRecDepth 100000 in
set_option maxHeartbeats 2000000 in
theorem climbed_wide (l : List Int) (k : Int) (hl : isSeq l = true) (hk1 : -3 ≤ k) (hk2 : k ≤ 3) (w : World) : Calls Try.prog 88 #[.agg (phA (padL l) l.length), .int .i64 k] w (Ret w (.agg (phA (padL (gen l.length (fun (i : Nat) => (l.getD i 0 + k * i) % 4))) l.length))) := by
  have h32 := isSeq_len hl
  have hall := isSeq_all hl
  have HALL := Lib.hid hall
  clear hall hl
  obtain ⟨N, hN⟩ : ∃ N, N = l.length := ⟨_, rfl⟩
  obtain ⟨G, hG⟩ : ∃ G : Nat → Int, G = fun (i : Nat) => (l.getD i 0 + k * i) % 4 := ⟨_, rfl⟩
  have hpl : (padL l).length = 32 := padL_length h32
  have hlen := phA_len (padL l) (l.length : Int) hpl
  obtain ⟨cs, hcs⟩ : ∃ cs, cs = phA (padL l) (l.length : Int) := ⟨_, rfl⟩
  have hsz : cs.size = 33 := by rw [hcs]; exact phA_size _ _ hpl
  rw [← hG, ← hcs]
  rw [← hcs] at hlen
  rw [← hN] at hlen h32 ⊢
  have HCS := Lib.hid hcs
  have HN := Lib.hid hN
  have HG := Lib.hid hG
  have HSZ := Lib.hid hsz
  have HPL := Lib.hid hpl
  clear hcs hN hG hsz hpl
  go_enter Try.func88, Try.ntmps88
  go_wp2_with (refine wpList_alloc_big rfl 47 rfl (phA z32 0) zeroPh ?_)
  go_loopw [8] (fun i wr => ∃ j : Nat, j ≤ N ∧ i = .int .i64 j ∧ wr.heap[w.heap.size]? = some (.cells (phA (padL (gen N (fun i => if i < j then G i else l.getD i 0))) N) 47 (0, 0)) ∧ wr.heap[w.heap.size + 1]? = some (.cells (phA z32 0) 47 (0, 0)) ∧ Below w.heap.size w wr) (fun i _ => N - (intOf i).toNat)
  case atStart =>
    refine ⟨0, Nat.zero_le _, rfl, ?_, ?_, by go_grown⟩
    · rw [heap_alloc2_old, HCS.out]
      have e : gen N (fun i => if i < 0 then G i else l.getD i 0) = l := by
        rw [HN.out]
        refine Eq.trans (gen_ext (fun i _ => ?_)) (gen_self l)
        rw [if_neg (Nat.not_lt_zero _)]
      rw [e, HN.out]
    · exact heap_alloc2_new w _ _
  case round =>
    obtain ⟨j, hj, rfl, hb0, hb1, hbel⟩ := hrel
    have hgl : (gen N (fun i => if i < j then G i else l.getD i 0)).length = N := gen_length _ _
    have hpl2 : (padL (gen N (fun i => if i < j then G i else l.getD i 0))).length = 32 := padL_length (by rw [hgl]; exact h32)
    have c32 : wr.cell? ⟨w.heap.size, 32, none⟩ = some (.int .i64 N) := by rw [cell_of_row wr _ _ _ _ _ hb0, phA_len _ _ hpl2]
    have HB := Lib.hid hbel
    by_cases hlt : j < N
    · have hx := allIn_getD HALL.out j (by rw [← HN.out]; exact hlt)
      have cj : wr.cell? ⟨w.heap.size, j, none⟩ = some (.int .i64 (l.getD j 0)) := by
        rw [cell_of_row wr _ _ _ _ _ hb0, phA_get _ _ j (by omega), pad_getD _ j (by rw [hgl]; exact hlt), gen_getD _ _ j hlt, if_neg (Nat.lt_irrefl _)]
      have fj : wr.frozen? ⟨w.heap.size, j, none⟩ = false := frozen_of_row wr _ _ _ _ hb0
      have hgj : G j = (l.getD j 0 + k * j) % 4 := by rw [HG.out]
      have hset := heap_setCell_same wr w.heap.size j _ _ (.int .i64 (G j)) hb0
      rw [phA_set _ _ j (by omega), pad_set _ j _ (by rw [hgl]; exact hlt), gen_set] at hset
      have hoth := heap_setCell_other wr ⟨w.heap.size, j, none⟩ (w.heap.size + 1) (.int .i64 (G j)) (by simp)
      have e2 : gen N (fun i => if i = j then G j else if i < j then G i else l.getD i 0) = gen N (fun i => if i < j + 1 then G i else l.getD i 0) := by
        apply gen_ext
        intro i _
        by_cases h1 : i = j
        · subst h1; rw [if_pos rfl, if_pos (Nat.lt_succ_self _)]
        · rw [if_neg h1]
          by_cases h2 : i < j
          · rw [if_pos h2, if_pos (Nat.lt_succ_of_lt h2)]
          · rw [if_neg h2, if_neg (by omega)]
      rw [e2] at hset
      rw [hb1] at hoth
      obtain ⟨x, hxd⟩ : ∃ x, x = l.getD j 0 := ⟨_, rfl⟩
      rw [← hxd] at hx cj hgj
      have HSET := Lib.hid hset
      have HOTH := Lib.hid hoth
      have HGJ := Lib.hid hgj
      obtain ⟨hx1, hx2⟩ := hx
      have h0 : (0 : Int) ≤ (j : Int) := by omega
      have h1 : (j : Int) < 32 := by omega
      have h1' : (j : Int) < (N : Int) := by omega
      have hkj1 : -96 ≤ k * (j : Int) ∧ k * (j : Int) ≤ 96 := by
        rcases (show k = -3 ∨ k = -2 ∨ k = -1 ∨ k = 0 ∨ k = 1 ∨ k = 2 ∨ k = 3 by omega) with rfl | rfl | rfl | rfl | rfl | rfl | rfl <;> omega
      have hkj2 := hkj1.2
      have hkj3 := hkj1.1
      clear hset hoth hgj hxd e2 hgl hpl2 hb0 hb1 hbel hlen
      go_wp2_with (go_at_call 103; refine (modulo_any _ 4 (by omega) (by omega) (by omega) (by omega) _).mono ?_; rintro e w' ⟨rfl, rfl⟩)
      go_roundw
      case rel =>
        rw [HGJ.out] at HSET HOTH
        exact ⟨j + 1, by omega, by go_num, HSET.out, HOTH.out, HB.out.setCell (Nat.le_refl _) _⟩
      case measure => simp [intOf]; omega
    · have he : gen N (fun i => if i < j then G i else l.getD i 0) = gen N G := gen_ext (fun i hi => by rw [if_pos (by omega)])
      rw [he] at hb0 hpl2
      have HB0 := Lib.hid hb0
      have HB1 := Lib.hid hb1
      have hpz : (phA (padL (gen N G)) (N : Int)).size = 33 := phA_size _ _ hpl2
      have HPZ := Lib.hid hpz
      have hinfo : (Try.prog.info? 47).map (·.size) = some (phA (padL (gen N G)) (N : Int)).size := by rw [hpz]; exact infoPh
      have HINFO := Lib.hid hinfo
      obtain ⟨C, hC⟩ : ∃ C, C = phA (padL (gen N G)) (N : Int) := ⟨_, rfl⟩
      have hC1 : C.all (·.oneCell') = true := by rw [hC]; exact phA_one _ _
      rw [← hC] at HB0 HPZ HINFO
      have HC1 := Lib.hid hC1
      have HC := Lib.hid hC
      clear he hb0 hb1 hpz hinfo hC hC1 hgl hpl2 hbel hlen
      go_wp2_with (first
        | (refine wpList_load_row rfl 47 (.tmp 2) rfl w.heap.size rfl 47 C (0, 0) _ HB0.out Try.underlying47 rfl HINFO.out ?_)
        | (refine wpList_store_big rfl 47 (.tmp 4) (.tmp 24) rfl (w.heap.size + 1) C rfl rfl 47 (phA z32 0) HB1.out 33 infoPh HPZ.out (phA_size _ _ z32_length) HC1.out w.heap.size w HB.out (by omega) ?_; intro w4 hg4 ho4 hz4 hb4))
      refine bodyPost_ret (v := .agg C) ?_ rfl ⟨?_, ‹_›⟩
      · exact results_cell_row Try.results88 _ _ (w.heap.size + 1) 47 C (0, 0) _ rfl (by assumption) Try.underlying47 rfl HINFO.out
      · rw [HC.out]
theorem climbedW (l : List Int) (k : Int) (hl : isSeq l = true) (h1 : -3 ≤ k) (h2 : k ≤ 3) (w : World) : Calls Try.prog 88 #[.agg (phC l), .int .i64 k] w (Ret w (.agg (phC (climbG l k)))) := by
  rw [phC_seq hl, phC_seq (climb_seq l k hl), climbG_length]
  exact climbed_wide l k hl h1 h2 w
theorem turnedW (l : List Int) (k : Int) (hl : isSeq l = true) (h1 : -1000 ≤ k) (h2 : k ≤ 1000) (w : World) : Calls Try.prog 89 #[.agg (phC l), .int .i64 k] w (Ret w (.agg (phC (turnG l k)))) := by
  rw [phC_seq hl, phC_seq (turnG_seq l k hl), turnG_length]
  exact turned_any l k hl h1 h2 w
theorem conjugateW (l : List Int) (hl : isSeq l = true) (w : World) : Calls Try.prog 86 #[.agg (phC l)] w (Ret w (.agg (phC (barG l)))) := by
  rw [phC_seq hl, phC_seq (barG_seq l hl), barG_length]
  exact conjugate_any l hl w
theorem backwardsW (l : List Int) (hl : isSeq l = true) (w : World) : Calls Try.prog 87 #[.agg (phC l)] w (Ret w (.agg (phC (backG l)))) := by
  rw [phC_seq hl, phC_seq (backG_seq l hl), backG_length]
  exact backwards_any l hl w
theorem phC_info (l : List Int) : (Try.prog.info? 47).map (·.size) = some (phC l).size := by rw [phC_size]; exact infoPh
theorem wp_load_part9 {P : Program} {op : Oper} {a : Act} {w : World} {K : Act → World → Prop} {Q : Exit → Act → World → Prop} (ty : TypeId) (x : Operand) (ho : op.op = .load ty x)
    (g o : Nat) (hx : a.eval x = .pointer (some ⟨g, o, none⟩)) (C D : Array Value) (t : TypeId) (fr : Nat × Nat) (d : TypeDesc) (hg : w.heap[g]? = some (.cells C t fr)) (hp : Part C o D)
    (hu : P.underlying ty = some d) (hd : d.isRow = true) (hi : (P.info? ty).map (·.size) = some D.size)
    (h : K (a.put op.dst (.agg D)) w) : op.wp P a w K Q := by
  refine wp_load_mid ty x ho g o hx D.toList d (fun j v hv => rowC hg (hp j v hv)) hu hd (by rw [hi, Array.length_toList]) ?_
  rwa [Array.toArray_toList]
theorem phC_nil9 : phC [] = phA z32 0 := by rfl

set_option maxRecDepth 100000 in
set_option maxHeartbeats 4000000 in
theorem moveOf_any (a b c d : Int) (ha : 0 ≤ a ∧ a ≤ 3) (hb : 0 ≤ b ∧ b ≤ 3) (hc : 0 ≤ c ∧ c ≤ 1) (hd : 0 ≤ d ∧ d ≤ 1) (l : List Int) (hl : isSeq l = true) (w : World) :
    Calls Try.prog 66 #[.agg #[.int .i64 a, .int .i64 b, .int .i64 c, .int .i64 d], .agg (phC l)] w (Ret w (.agg (phC (clT a b c d l)))) := by
  have ZZ := Lib.hid zeroPh
  have SZ := Lib.hid (phA_size z32 0 z32_length)
  obtain ⟨Z, hZ⟩ : ∃ Z, Z = phA z32 0 := ⟨_, rfl⟩
  rw [← hZ] at ZZ SZ
  clear hZ
  have MC0 := Lib.hid (show (#[Value.int .i64 a, .int .i64 b, .int .i64 c, .int .i64 d] : Array Value)[0]? = some (.int .i64 a) from rfl)
  have MC1 := Lib.hid (show (#[Value.int .i64 a, .int .i64 b, .int .i64 c, .int .i64 d] : Array Value)[1]? = some (.int .i64 b) from rfl)
  have MC2 := Lib.hid (show (#[Value.int .i64 a, .int .i64 b, .int .i64 c, .int .i64 d] : Array Value)[2]? = some (.int .i64 c) from rfl)
  have MC3 := Lib.hid (show (#[Value.int .i64 a, .int .i64 b, .int .i64 c, .int .i64 d] : Array Value)[3]? = some (.int .i64 d) from rfl)
  obtain ⟨ha1, ha2⟩ := ha
  obtain ⟨hb1, hb2⟩ := hb
  rcases (show c = 0 ∨ c = 1 by omega) with rfl | rfl <;> rcases (show d = 0 ∨ d = 1 by omega) with rfl | rfl
  · show Calls _ _ _ _ (Ret w (.agg (phC (turnG (climbG (l) b) a))))
    have HE := Lib.hid (fun w => climbedW (l) b hl (by omega) (by omega) w)
    have HT := Lib.hid (fun w => turnedW (climbG (l) b) a (climb_seq _ _ hl) (by omega) (by omega) w)
    have S_C0 := Lib.hid (phC_size (l))
    have O_C0 := Lib.hid (phC_one (l))
    have I_C0 := Lib.hid (phC_info (l))
    obtain ⟨C0, h_C0⟩ : ∃ C, C = phC (l) := ⟨_, rfl⟩
    have S_C3 := Lib.hid (phC_size (climbG (l) b))
    have O_C3 := Lib.hid (phC_one (climbG (l) b))
    have I_C3 := Lib.hid (phC_info (climbG (l) b))
    obtain ⟨C3, h_C3⟩ : ∃ C, C = phC (climbG (l) b) := ⟨_, rfl⟩
    have S_C4 := Lib.hid (phC_size (turnG (climbG (l) b) a))
    have O_C4 := Lib.hid (phC_one (turnG (climbG (l) b) a))
    have I_C4 := Lib.hid (phC_info (turnG (climbG (l) b) a))
    obtain ⟨C4, h_C4⟩ : ∃ C, C = phC (turnG (climbG (l) b) a) := ⟨_, rfl⟩
    rw [← h_C0] at S_C0 O_C0 I_C0 HE ⊢
    rw [← h_C3] at S_C3 O_C3 I_C3 HE HT
    rw [← h_C4] at S_C4 O_C4 I_C4 HT ⊢
    clear h_C0 h_C3 h_C4 hl
    obtain ⟨MV, hMV⟩ : ∃ M : Array Value, M = #[.int .i64 a, .int .i64 b, .int .i64 0, .int .i64 0] := ⟨_, rfl⟩
    rw [← hMV] at MC0 MC1 MC2 MC3 ⊢
    clear hMV
    have B0 := Lib.hid (Below.refl w.heap.size w)
    go_enter Try.func66, Try.ntmps66
    go_wp2_with (first
      | ((with_reducible refine at_op (Op.box 71 (.tmp 0)) ?_); refine wpList_box_row rfl 71 (.tmp 0) rfl MV rfl ?_; intro w1 hr hb hz; have R1_m := Lib.hid hr; have B1 := Lib.hid (joins B0.out hb); have L1_m := Lib.hid (show w.heap.size ≤ w.heap.size from B0.out.size); clear hr hb hz)
      | ((with_reducible refine at_op (Op.box 47 (.tmp 1)) ?_); refine wpList_box_row rfl 47 (.tmp 1) rfl C0 rfl ?_; intro w2 hr hb hz; have N2_m_p := Lib.hid (Nat.ne_of_lt (row_lt R1_m.out)); have N2_p_m := Lib.hid (Ne.symm N2_m_p.out); have R2_m := Lib.hid (rowB R1_m.out hb); have R2_p := Lib.hid hr; have B2 := Lib.hid (joins B1.out hb); have L2_p := Lib.hid (show w.heap.size ≤ w1.heap.size from B1.out.size); clear hr hb hz)
      | ((with_reducible refine at_op (d := some 4) (Op.alloc 47) ?_); refine wpList_alloc_row rfl 47 rfl Z ZZ.out ?_; intro w3 hr hb hz; have N3_m_r := Lib.hid (Nat.ne_of_lt (row_lt R2_m.out)); have N3_r_m := Lib.hid (Ne.symm N3_m_r.out); have N3_p_r := Lib.hid (Nat.ne_of_lt (row_lt R2_p.out)); have N3_r_p := Lib.hid (Ne.symm N3_p_r.out); have R3_m := Lib.hid (rowB R2_m.out hb); have R3_p := Lib.hid (rowB R2_p.out hb); have R3_r := Lib.hid hr; have B3 := Lib.hid (joins B2.out hb); have L3_r := Lib.hid (show w.heap.size ≤ w2.heap.size from B2.out.size); have c2_ := rowC R3_m.out MC2.out; have c3_ := rowC R3_m.out MC3.out; clear hr hb hz))
    go_wp2_with fail
    refine wp_region_held_drew (S := (fun w' => World.grownBy w3 w' (some (w2.heap.size)))) (by kernel_rfl) (grownDrew (World.grownBy.refl _ _)) ?_
    obtain ⟨w4, hdw⟩ : ∃ w', w' = w3.drew := ⟨_, rfl⟩
    rw [← hdw]
    have hb : Below w3.heap.size w3 w4 := by rw [hdw]; exact belowN (Below.refl _ _) 1
    have R4_m := Lib.hid (rowB R3_m.out hb)
    have R4_p := Lib.hid (rowB R3_p.out hb)
    have R4_r := Lib.hid (rowB R3_r.out hb)
    have B4 := Lib.hid (joins B3.out hb)
    clear hdw hb
    intro hHeld
    refine' wpAnyH_take (i := 0) (v := _) rfl (by kernel_rfl) (by kernel_rfl) (by kernel_rfl) (fun _ _ _ h => h) (yieldsPart (by rfl) 47 (.tmp 3) rfl (w1.heap.size) 0 rfl C0 C0 47 (0, 0) _ (fun w h => (rowG R3_p.out h (fun e => N3_p_r.out (Option.some.inj e)))) (Part.self _) Try.underlying47 rfl I_C0.out) (by assumption) ?rest1
    (try simp only [Act.put, List.getElem_toArray, List.getElem_cons_zero, List.setIfInBounds_toArray, List.set_cons_zero, List.set_cons_succ])
    refine' wpAnyH_take (i := 1) (v := _) rfl (by kernel_rfl) (by kernel_rfl) (by kernel_rfl) (fun _ _ _ h => h) (Or.inl ⟨by rfl, ?hy2⟩) (by assumption) ?rest2
    case hy2 =>
      intro w h
      (try clear h)
      go_simp
      (try with_reducible rfl)
    (try simp only [Act.put, List.getElem_toArray, List.getElem_cons_zero, List.getElem_cons_succ, List.setIfInBounds_toArray, List.set_cons_zero, List.set_cons_succ])
    refine' wpAnyH_take (i := 2) (v := _) rfl (by kernel_rfl) (by kernel_rfl) (by kernel_rfl) (fun _ _ _ h => h) (Or.inl ⟨by rfl, ?hy3⟩) (by assumption) ?rest3
    case hy3 =>
      intro w h
      have c1_ := rowC (rowG R3_m.out h (fun e => N3_m_r.out (Option.some.inj e))) MC1.out
      (try clear h)
      go_simp
      (try with_reducible rfl)
    (try simp only [Act.put, List.getElem_toArray, List.getElem_cons_zero, List.getElem_cons_succ, List.setIfInBounds_toArray, List.set_cons_zero, List.set_cons_succ])
    refine' wpAnyH_take (i := 4) (v := _) rfl (by kernel_rfl) (by kernel_rfl) (by kernel_rfl) (fun _ _ _ h => h) (Or.inl ⟨by rfl, ?hy4⟩) (by assumption) ?rest4
    case hy4 =>
      intro w h
      (try clear h)
      go_simp
      (try with_reducible rfl)
    (try simp only [Act.put, List.getElem_toArray, List.getElem_cons_zero, List.getElem_cons_succ, List.setIfInBounds_toArray, List.set_cons_zero, List.set_cons_succ])
    refine' wpAnyH_take (i := 5) (v := _) rfl (by kernel_rfl) (by kernel_rfl) (by kernel_rfl) (fun _ _ _ h => h) (Or.inl ⟨by rfl, ?hy5⟩) (by assumption) ?rest5
    case hy5 =>
      intro w h
      have c0_ := rowC (rowG R3_m.out h (fun e => N3_m_r.out (Option.some.inj e))) MC0.out
      (try clear h)
      go_simp
      (try with_reducible rfl)
    (try simp only [Act.put, List.getElem_toArray, List.getElem_cons_zero, List.getElem_cons_succ, List.setIfInBounds_toArray, List.set_cons_zero, List.set_cons_succ])
    refine wpAnyH_ready (rs := [3]) (by kernel_rfl) (by simp) ?_
    refine AllReadyH.cons rfl (fun K hK => ?_) AllReadyH.nil
    go_simp
    refine (HE.out _).mono ?_
    rintro e w5 ⟨rfl, hb⟩
    have R5_m := Lib.hid (rowB R4_m.out hb)
    have R5_p := Lib.hid (rowB R4_p.out hb)
    have R5_r := Lib.hid (rowB R4_r.out hb)
    have B5 := Lib.hid (joins B4.out hb)
    have hHeld := grownB hHeld hb
    clear hb
    refine hK.out _ _ hHeld (fun hHeld => ?_)
    clear hK K
    (try simp only [Act.put, List.getElem_toArray, List.getElem_cons_zero, List.getElem_cons_succ, List.setIfInBounds_toArray, List.set_cons_zero, List.set_cons_succ])
    refine wpAnyH_ready (rs := [6]) (by kernel_rfl) (by simp) ?_
    refine AllReadyH.cons rfl (fun K hK => ?_) AllReadyH.nil
    go_simp
    refine (HT.out _).mono ?_
    rintro e w6 ⟨rfl, hb⟩
    have R6_m := Lib.hid (rowB R5_m.out hb)
    have R6_p := Lib.hid (rowB R5_p.out hb)
    have R6_r := Lib.hid (rowB R5_r.out hb)
    have B6 := Lib.hid (joins B5.out hb)
    have hHeld := grownB hHeld hb
    clear hb
    refine hK.out _ _ hHeld (fun hHeld => ?_)
    clear hK K
    (try simp only [Act.put, List.getElem_toArray, List.getElem_cons_zero, List.getElem_cons_succ, List.setIfInBounds_toArray, List.set_cons_zero, List.set_cons_succ])
    refine wpAnyH_ready (rs := [7]) (by kernel_rfl) (by simp) ?_
    refine AllReadyH.cons rfl (fun K hK => ?_) AllReadyH.nil
    rw [if_pos (by rfl)]
    refine wp_put_row 47 (.tmp 4) (.tmp 21) rfl (w2.heap.size) C4 rfl rfl 47 Z R6_r.out 33 infoPh S_C4.out SZ.out O_C4.out w.heap.size w B6.out L3_r.out ?_
    intro w7 hr hs hb
    have R7_m := Lib.hid (hs.row R6_m.out N3_m_r.out)
    have R7_p := Lib.hid (hs.row R6_p.out N3_p_r.out)
    have R7_r := Lib.hid hr
    have B7 := Lib.hid hb
    have hHeld := grownS hHeld hs hb B6.out
    clear hr hs hb
    refine hK.out _ _ hHeld (fun hHeld => ?_)
    clear hK K
    (try simp only [Act.put])
    refine wpAnyH_done (by kernel_rfl) ?_ _
    go_wp2_with fail
    refine bodyPost_ret (v := .agg C4) ?_ rfl ⟨rfl, B7.out⟩
    exact results_cell_row Try.results66 _ _ (w2.heap.size) 47 C4 (0, 0) _ rfl R7_r.out Try.underlying47 rfl I_C4.out
  · show Calls _ _ _ _ (Ret w (.agg (phC (turnG (climbG (backG (l)) b) a))))
    have HD := Lib.hid (fun w => backwardsW (l) hl w)
    have HE := Lib.hid (fun w => climbedW (backG (l)) b (backG_seq _ hl) (by omega) (by omega) w)
    have HT := Lib.hid (fun w => turnedW (climbG (backG (l)) b) a (climb_seq _ _ (backG_seq _ hl)) (by omega) (by omega) w)
    have S_C0 := Lib.hid (phC_size (l))
    have O_C0 := Lib.hid (phC_one (l))
    have I_C0 := Lib.hid (phC_info (l))
    obtain ⟨C0, h_C0⟩ : ∃ C, C = phC (l) := ⟨_, rfl⟩
    have S_C2 := Lib.hid (phC_size (backG (l)))
    have O_C2 := Lib.hid (phC_one (backG (l)))
    have I_C2 := Lib.hid (phC_info (backG (l)))
    obtain ⟨C2, h_C2⟩ : ∃ C, C = phC (backG (l)) := ⟨_, rfl⟩
    have S_C3 := Lib.hid (phC_size (climbG (backG (l)) b))
    have O_C3 := Lib.hid (phC_one (climbG (backG (l)) b))
    have I_C3 := Lib.hid (phC_info (climbG (backG (l)) b))
    obtain ⟨C3, h_C3⟩ : ∃ C, C = phC (climbG (backG (l)) b) := ⟨_, rfl⟩
    have S_C4 := Lib.hid (phC_size (turnG (climbG (backG (l)) b) a))
    have O_C4 := Lib.hid (phC_one (turnG (climbG (backG (l)) b) a))
    have I_C4 := Lib.hid (phC_info (turnG (climbG (backG (l)) b) a))
    obtain ⟨C4, h_C4⟩ : ∃ C, C = phC (turnG (climbG (backG (l)) b) a) := ⟨_, rfl⟩
    rw [← h_C0] at S_C0 O_C0 I_C0 HD ⊢
    rw [← h_C2] at S_C2 O_C2 I_C2 HD HE
    rw [← h_C3] at S_C3 O_C3 I_C3 HE HT
    rw [← h_C4] at S_C4 O_C4 I_C4 HT ⊢
    clear h_C0 h_C2 h_C3 h_C4 hl
    obtain ⟨MV, hMV⟩ : ∃ M : Array Value, M = #[.int .i64 a, .int .i64 b, .int .i64 0, .int .i64 1] := ⟨_, rfl⟩
    rw [← hMV] at MC0 MC1 MC2 MC3 ⊢
    clear hMV
    have B0 := Lib.hid (Below.refl w.heap.size w)
    go_enter Try.func66, Try.ntmps66
    go_wp2_with (first
      | ((with_reducible refine at_op (Op.box 71 (.tmp 0)) ?_); refine wpList_box_row rfl 71 (.tmp 0) rfl MV rfl ?_; intro w1 hr hb hz; have R1_m := Lib.hid hr; have B1 := Lib.hid (joins B0.out hb); have L1_m := Lib.hid (show w.heap.size ≤ w.heap.size from B0.out.size); clear hr hb hz)
      | ((with_reducible refine at_op (Op.box 47 (.tmp 1)) ?_); refine wpList_box_row rfl 47 (.tmp 1) rfl C0 rfl ?_; intro w2 hr hb hz; have N2_m_p := Lib.hid (Nat.ne_of_lt (row_lt R1_m.out)); have N2_p_m := Lib.hid (Ne.symm N2_m_p.out); have R2_m := Lib.hid (rowB R1_m.out hb); have R2_p := Lib.hid hr; have B2 := Lib.hid (joins B1.out hb); have L2_p := Lib.hid (show w.heap.size ≤ w1.heap.size from B1.out.size); clear hr hb hz)
      | ((with_reducible refine at_op (d := some 4) (Op.alloc 47) ?_); refine wpList_alloc_row rfl 47 rfl Z ZZ.out ?_; intro w3 hr hb hz; have N3_m_r := Lib.hid (Nat.ne_of_lt (row_lt R2_m.out)); have N3_r_m := Lib.hid (Ne.symm N3_m_r.out); have N3_p_r := Lib.hid (Nat.ne_of_lt (row_lt R2_p.out)); have N3_r_p := Lib.hid (Ne.symm N3_p_r.out); have R3_m := Lib.hid (rowB R2_m.out hb); have R3_p := Lib.hid (rowB R2_p.out hb); have R3_r := Lib.hid hr; have B3 := Lib.hid (joins B2.out hb); have L3_r := Lib.hid (show w.heap.size ≤ w2.heap.size from B2.out.size); have c2_ := rowC R3_m.out MC2.out; have c3_ := rowC R3_m.out MC3.out; clear hr hb hz)
      | ((with_reducible refine at_op (d := some 13) (Op.load 47 (.tmp 3)) ?_); refine wpList_load_part rfl 47 (.tmp 3) rfl (w1.heap.size) 0 rfl C0 C0 47 (0, 0) _ R3_p.out (Part.self _) Try.underlying47 rfl I_C0.out ?_))
    refine (HD.out _).mono ?_
    rintro e w4 ⟨rfl, hb⟩
    have R4_m := Lib.hid (rowB R3_m.out hb)
    have R4_p := Lib.hid (rowB R3_p.out hb)
    have R4_r := Lib.hid (rowB R3_r.out hb)
    have B4 := Lib.hid (joins B3.out hb)
    clear hb
    go_wp2_with ((with_reducible refine at_op (Op.store 47 (.tmp 3) (.tmp 14)) ?_); refine wpList_put_row rfl 47 (.tmp 3) (.tmp 14) rfl (w1.heap.size) C2 rfl rfl 47 C0 R4_p.out 33 infoPh S_C2.out S_C0.out O_C2.out w.heap.size w B4.out L2_p.out ?_; intro w5 hr hs hb; have R5_m := Lib.hid (hs.row R4_m.out N2_m_p.out); have R5_r := Lib.hid (hs.row R4_r.out N3_r_p.out); have R5_p := Lib.hid hr; have B5 := Lib.hid hb; clear hr hs hb)
    go_wp2_with fail
    refine wp_region_held_drew (S := (fun w' => World.grownBy w5 w' (some (w2.heap.size)))) (by kernel_rfl) (grownDrew (World.grownBy.refl _ _)) ?_
    obtain ⟨w6, hdw⟩ : ∃ w', w' = w5.drew := ⟨_, rfl⟩
    rw [← hdw]
    have hb : Below w5.heap.size w5 w6 := by rw [hdw]; exact belowN (Below.refl _ _) 1
    have R6_m := Lib.hid (rowB R5_m.out hb)
    have R6_p := Lib.hid (rowB R5_p.out hb)
    have R6_r := Lib.hid (rowB R5_r.out hb)
    have B6 := Lib.hid (joins B5.out hb)
    clear hdw hb
    intro hHeld
    refine' wpAnyH_take (i := 0) (v := _) rfl (by kernel_rfl) (by kernel_rfl) (by kernel_rfl) (fun _ _ _ h => h) (yieldsPart (by rfl) 47 (.tmp 3) rfl (w1.heap.size) 0 rfl C2 C2 47 (0, 0) _ (fun w h => (rowG R5_p.out h (fun e => N3_p_r.out (Option.some.inj e)))) (Part.self _) Try.underlying47 rfl I_C2.out) (by assumption) ?rest6
    (try simp only [Act.put, List.getElem_toArray, List.getElem_cons_zero, List.setIfInBounds_toArray, List.set_cons_zero, List.set_cons_succ])
    refine' wpAnyH_take (i := 1) (v := _) rfl (by kernel_rfl) (by kernel_rfl) (by kernel_rfl) (fun _ _ _ h => h) (Or.inl ⟨by rfl, ?hy7⟩) (by assumption) ?rest7
    case hy7 =>
      intro w h
      (try clear h)
      go_simp
      (try with_reducible rfl)
    (try simp only [Act.put, List.getElem_toArray, List.getElem_cons_zero, List.getElem_cons_succ, List.setIfInBounds_toArray, List.set_cons_zero, List.set_cons_succ])
    refine' wpAnyH_take (i := 2) (v := _) rfl (by kernel_rfl) (by kernel_rfl) (by kernel_rfl) (fun _ _ _ h => h) (Or.inl ⟨by rfl, ?hy8⟩) (by assumption) ?rest8
    case hy8 =>
      intro w h
      have c1_ := rowC (rowG R5_m.out h (fun e => N3_m_r.out (Option.some.inj e))) MC1.out
      (try clear h)
      go_simp
      (try with_reducible rfl)
    (try simp only [Act.put, List.getElem_toArray, List.getElem_cons_zero, List.getElem_cons_succ, List.setIfInBounds_toArray, List.set_cons_zero, List.set_cons_succ])
    refine' wpAnyH_take (i := 4) (v := _) rfl (by kernel_rfl) (by kernel_rfl) (by kernel_rfl) (fun _ _ _ h => h) (Or.inl ⟨by rfl, ?hy9⟩) (by assumption) ?rest9
    case hy9 =>
      intro w h
      (try clear h)
      go_simp
      (try with_reducible rfl)
    (try simp only [Act.put, List.getElem_toArray, List.getElem_cons_zero, List.getElem_cons_succ, List.setIfInBounds_toArray, List.set_cons_zero, List.set_cons_succ])
    refine' wpAnyH_take (i := 5) (v := _) rfl (by kernel_rfl) (by kernel_rfl) (by kernel_rfl) (fun _ _ _ h => h) (Or.inl ⟨by rfl, ?hy10⟩) (by assumption) ?rest10
    case hy10 =>
      intro w h
      have c0_ := rowC (rowG R5_m.out h (fun e => N3_m_r.out (Option.some.inj e))) MC0.out
      (try clear h)
      go_simp
      (try with_reducible rfl)
    (try simp only [Act.put, List.getElem_toArray, List.getElem_cons_zero, List.getElem_cons_succ, List.setIfInBounds_toArray, List.set_cons_zero, List.set_cons_succ])
    refine wpAnyH_ready (rs := [3]) (by kernel_rfl) (by simp) ?_
    refine AllReadyH.cons rfl (fun K hK => ?_) AllReadyH.nil
    go_simp
    refine (HE.out _).mono ?_
    rintro e w7 ⟨rfl, hb⟩
    have R7_m := Lib.hid (rowB R6_m.out hb)
    have R7_p := Lib.hid (rowB R6_p.out hb)
    have R7_r := Lib.hid (rowB R6_r.out hb)
    have B7 := Lib.hid (joins B6.out hb)
    have hHeld := grownB hHeld hb
    clear hb
    refine hK.out _ _ hHeld (fun hHeld => ?_)
    clear hK K
    (try simp only [Act.put, List.getElem_toArray, List.getElem_cons_zero, List.getElem_cons_succ, List.setIfInBounds_toArray, List.set_cons_zero, List.set_cons_succ])
    refine wpAnyH_ready (rs := [6]) (by kernel_rfl) (by simp) ?_
    refine AllReadyH.cons rfl (fun K hK => ?_) AllReadyH.nil
    go_simp
    refine (HT.out _).mono ?_
    rintro e w8 ⟨rfl, hb⟩
    have R8_m := Lib.hid (rowB R7_m.out hb)
    have R8_p := Lib.hid (rowB R7_p.out hb)
    have R8_r := Lib.hid (rowB R7_r.out hb)
    have B8 := Lib.hid (joins B7.out hb)
    have hHeld := grownB hHeld hb
    clear hb
    refine hK.out _ _ hHeld (fun hHeld => ?_)
    clear hK K
    (try simp only [Act.put, List.getElem_toArray, List.getElem_cons_zero, List.getElem_cons_succ, List.setIfInBounds_toArray, List.set_cons_zero, List.set_cons_succ])
    refine wpAnyH_ready (rs := [7]) (by kernel_rfl) (by simp) ?_
    refine AllReadyH.cons rfl (fun K hK => ?_) AllReadyH.nil
    rw [if_pos (by rfl)]
    refine wp_put_row 47 (.tmp 4) (.tmp 21) rfl (w2.heap.size) C4 rfl rfl 47 Z R8_r.out 33 infoPh S_C4.out SZ.out O_C4.out w.heap.size w B8.out L3_r.out ?_
    intro w9 hr hs hb
    have R9_m := Lib.hid (hs.row R8_m.out N3_m_r.out)
    have R9_p := Lib.hid (hs.row R8_p.out N3_p_r.out)
    have R9_r := Lib.hid hr
    have B9 := Lib.hid hb
    have hHeld := grownS hHeld hs hb B8.out
    clear hr hs hb
    refine hK.out _ _ hHeld (fun hHeld => ?_)
    clear hK K
    (try simp only [Act.put])
    refine wpAnyH_done (by kernel_rfl) ?_ _
    go_wp2_with fail
    refine bodyPost_ret (v := .agg C4) ?_ rfl ⟨rfl, B9.out⟩
    exact results_cell_row Try.results66 _ _ (w2.heap.size) 47 C4 (0, 0) _ rfl R9_r.out Try.underlying47 rfl I_C4.out
  · show Calls _ _ _ _ (Ret w (.agg (phC (turnG (climbG (barG l) b) a))))
    have HC := Lib.hid (fun w => conjugateW l hl w)
    have HE := Lib.hid (fun w => climbedW (barG l) b (barG_seq _ hl) (by omega) (by omega) w)
    have HT := Lib.hid (fun w => turnedW (climbG (barG l) b) a (climb_seq _ _ (barG_seq _ hl)) (by omega) (by omega) w)
    have S_C0 := Lib.hid (phC_size (l))
    have O_C0 := Lib.hid (phC_one (l))
    have I_C0 := Lib.hid (phC_info (l))
    obtain ⟨C0, h_C0⟩ : ∃ C, C = phC (l) := ⟨_, rfl⟩
    have S_C1 := Lib.hid (phC_size (barG l))
    have O_C1 := Lib.hid (phC_one (barG l))
    have I_C1 := Lib.hid (phC_info (barG l))
    obtain ⟨C1, h_C1⟩ : ∃ C, C = phC (barG l) := ⟨_, rfl⟩
    have S_C3 := Lib.hid (phC_size (climbG (barG l) b))
    have O_C3 := Lib.hid (phC_one (climbG (barG l) b))
    have I_C3 := Lib.hid (phC_info (climbG (barG l) b))
    obtain ⟨C3, h_C3⟩ : ∃ C, C = phC (climbG (barG l) b) := ⟨_, rfl⟩
    have S_C4 := Lib.hid (phC_size (turnG (climbG (barG l) b) a))
    have O_C4 := Lib.hid (phC_one (turnG (climbG (barG l) b) a))
    have I_C4 := Lib.hid (phC_info (turnG (climbG (barG l) b) a))
    obtain ⟨C4, h_C4⟩ : ∃ C, C = phC (turnG (climbG (barG l) b) a) := ⟨_, rfl⟩
    rw [← h_C0] at S_C0 O_C0 I_C0 HC ⊢
    rw [← h_C1] at S_C1 O_C1 I_C1 HC HE
    rw [← h_C3] at S_C3 O_C3 I_C3 HE HT
    rw [← h_C4] at S_C4 O_C4 I_C4 HT ⊢
    clear h_C0 h_C1 h_C3 h_C4 hl
    obtain ⟨MV, hMV⟩ : ∃ M : Array Value, M = #[.int .i64 a, .int .i64 b, .int .i64 1, .int .i64 0] := ⟨_, rfl⟩
    rw [← hMV] at MC0 MC1 MC2 MC3 ⊢
    clear hMV
    have B0 := Lib.hid (Below.refl w.heap.size w)
    go_enter Try.func66, Try.ntmps66
    go_wp2_with (first
      | ((with_reducible refine at_op (Op.box 71 (.tmp 0)) ?_); refine wpList_box_row rfl 71 (.tmp 0) rfl MV rfl ?_; intro w1 hr hb hz; have R1_m := Lib.hid hr; have B1 := Lib.hid (joins B0.out hb); have L1_m := Lib.hid (show w.heap.size ≤ w.heap.size from B0.out.size); clear hr hb hz)
      | ((with_reducible refine at_op (Op.box 47 (.tmp 1)) ?_); refine wpList_box_row rfl 47 (.tmp 1) rfl C0 rfl ?_; intro w2 hr hb hz; have N2_m_p := Lib.hid (Nat.ne_of_lt (row_lt R1_m.out)); have N2_p_m := Lib.hid (Ne.symm N2_m_p.out); have R2_m := Lib.hid (rowB R1_m.out hb); have R2_p := Lib.hid hr; have B2 := Lib.hid (joins B1.out hb); have L2_p := Lib.hid (show w.heap.size ≤ w1.heap.size from B1.out.size); clear hr hb hz)
      | ((with_reducible refine at_op (d := some 4) (Op.alloc 47) ?_); refine wpList_alloc_row rfl 47 rfl Z ZZ.out ?_; intro w3 hr hb hz; have N3_m_r := Lib.hid (Nat.ne_of_lt (row_lt R2_m.out)); have N3_r_m := Lib.hid (Ne.symm N3_m_r.out); have N3_p_r := Lib.hid (Nat.ne_of_lt (row_lt R2_p.out)); have N3_r_p := Lib.hid (Ne.symm N3_p_r.out); have R3_m := Lib.hid (rowB R2_m.out hb); have R3_p := Lib.hid (rowB R2_p.out hb); have R3_r := Lib.hid hr; have B3 := Lib.hid (joins B2.out hb); have L3_r := Lib.hid (show w.heap.size ≤ w2.heap.size from B2.out.size); have c2_ := rowC R3_m.out MC2.out; clear hr hb hz)
      | ((with_reducible refine at_op (d := some 8) (Op.load 47 (.tmp 3)) ?_); refine wpList_load_part rfl 47 (.tmp 3) rfl (w1.heap.size) 0 rfl C0 C0 47 (0, 0) _ R3_p.out (Part.self _) Try.underlying47 rfl I_C0.out ?_))
    refine (HC.out _).mono ?_
    rintro e w4 ⟨rfl, hb⟩
    have R4_m := Lib.hid (rowB R3_m.out hb)
    have R4_p := Lib.hid (rowB R3_p.out hb)
    have R4_r := Lib.hid (rowB R3_r.out hb)
    have B4 := Lib.hid (joins B3.out hb)
    clear hb
    go_wp2_with ((with_reducible refine at_op (Op.store 47 (.tmp 3) (.tmp 9)) ?_); refine wpList_put_row rfl 47 (.tmp 3) (.tmp 9) rfl (w1.heap.size) C1 rfl rfl 47 C0 R4_p.out 33 infoPh S_C1.out S_C0.out O_C1.out w.heap.size w B4.out L2_p.out ?_; intro w5 hr hs hb; have R5_m := Lib.hid (hs.row R4_m.out N2_m_p.out); have R5_r := Lib.hid (hs.row R4_r.out N3_r_p.out); have R5_p := Lib.hid hr; have B5 := Lib.hid hb; have c3_ := rowC R5_m.out MC3.out; clear hr hs hb)
    go_wp2_with fail
    refine wp_region_held_drew (S := (fun w' => World.grownBy w5 w' (some (w2.heap.size)))) (by kernel_rfl) (grownDrew (World.grownBy.refl _ _)) ?_
    obtain ⟨w6, hdw⟩ : ∃ w', w' = w5.drew := ⟨_, rfl⟩
    rw [← hdw]
    have hb : Below w5.heap.size w5 w6 := by rw [hdw]; exact belowN (Below.refl _ _) 1
    have R6_m := Lib.hid (rowB R5_m.out hb)
    have R6_p := Lib.hid (rowB R5_p.out hb)
    have R6_r := Lib.hid (rowB R5_r.out hb)
    have B6 := Lib.hid (joins B5.out hb)
    clear hdw hb
    intro hHeld
    refine' wpAnyH_take (i := 0) (v := _) rfl (by kernel_rfl) (by kernel_rfl) (by kernel_rfl) (fun _ _ _ h => h) (yieldsPart (by rfl) 47 (.tmp 3) rfl (w1.heap.size) 0 rfl C1 C1 47 (0, 0) _ (fun w h => (rowG R5_p.out h (fun e => N3_p_r.out (Option.some.inj e)))) (Part.self _) Try.underlying47 rfl I_C1.out) (by assumption) ?rest11
    (try simp only [Act.put, List.getElem_toArray, List.getElem_cons_zero, List.setIfInBounds_toArray, List.set_cons_zero, List.set_cons_succ])
    refine' wpAnyH_take (i := 1) (v := _) rfl (by kernel_rfl) (by kernel_rfl) (by kernel_rfl) (fun _ _ _ h => h) (Or.inl ⟨by rfl, ?hy12⟩) (by assumption) ?rest12
    case hy12 =>
      intro w h
      (try clear h)
      go_simp
      (try with_reducible rfl)
    (try simp only [Act.put, List.getElem_toArray, List.getElem_cons_zero, List.getElem_cons_succ, List.setIfInBounds_toArray, List.set_cons_zero, List.set_cons_succ])
    refine' wpAnyH_take (i := 2) (v := _) rfl (by kernel_rfl) (by kernel_rfl) (by kernel_rfl) (fun _ _ _ h => h) (Or.inl ⟨by rfl, ?hy13⟩) (by assumption) ?rest13
    case hy13 =>
      intro w h
      have c1_ := rowC (rowG R5_m.out h (fun e => N3_m_r.out (Option.some.inj e))) MC1.out
      (try clear h)
      go_simp
      (try with_reducible rfl)
    (try simp only [Act.put, List.getElem_toArray, List.getElem_cons_zero, List.getElem_cons_succ, List.setIfInBounds_toArray, List.set_cons_zero, List.set_cons_succ])
    refine' wpAnyH_take (i := 4) (v := _) rfl (by kernel_rfl) (by kernel_rfl) (by kernel_rfl) (fun _ _ _ h => h) (Or.inl ⟨by rfl, ?hy14⟩) (by assumption) ?rest14
    case hy14 =>
      intro w h
      (try clear h)
      go_simp
      (try with_reducible rfl)
    (try simp only [Act.put, List.getElem_toArray, List.getElem_cons_zero, List.getElem_cons_succ, List.setIfInBounds_toArray, List.set_cons_zero, List.set_cons_succ])
    refine' wpAnyH_take (i := 5) (v := _) rfl (by kernel_rfl) (by kernel_rfl) (by kernel_rfl) (fun _ _ _ h => h) (Or.inl ⟨by rfl, ?hy15⟩) (by assumption) ?rest15
    case hy15 =>
      intro w h
      have c0_ := rowC (rowG R5_m.out h (fun e => N3_m_r.out (Option.some.inj e))) MC0.out
      (try clear h)
      go_simp
      (try with_reducible rfl)
    (try simp only [Act.put, List.getElem_toArray, List.getElem_cons_zero, List.getElem_cons_succ, List.setIfInBounds_toArray, List.set_cons_zero, List.set_cons_succ])
    refine wpAnyH_ready (rs := [3]) (by kernel_rfl) (by simp) ?_
    refine AllReadyH.cons rfl (fun K hK => ?_) AllReadyH.nil
    go_simp
    refine (HE.out _).mono ?_
    rintro e w7 ⟨rfl, hb⟩
    have R7_m := Lib.hid (rowB R6_m.out hb)
    have R7_p := Lib.hid (rowB R6_p.out hb)
    have R7_r := Lib.hid (rowB R6_r.out hb)
    have B7 := Lib.hid (joins B6.out hb)
    have hHeld := grownB hHeld hb
    clear hb
    refine hK.out _ _ hHeld (fun hHeld => ?_)
    clear hK K
    (try simp only [Act.put, List.getElem_toArray, List.getElem_cons_zero, List.getElem_cons_succ, List.setIfInBounds_toArray, List.set_cons_zero, List.set_cons_succ])
    refine wpAnyH_ready (rs := [6]) (by kernel_rfl) (by simp) ?_
    refine AllReadyH.cons rfl (fun K hK => ?_) AllReadyH.nil
    go_simp
    refine (HT.out _).mono ?_
    rintro e w8 ⟨rfl, hb⟩
    have R8_m := Lib.hid (rowB R7_m.out hb)
    have R8_p := Lib.hid (rowB R7_p.out hb)
    have R8_r := Lib.hid (rowB R7_r.out hb)
    have B8 := Lib.hid (joins B7.out hb)
    have hHeld := grownB hHeld hb
    clear hb
    refine hK.out _ _ hHeld (fun hHeld => ?_)
    clear hK K
    (try simp only [Act.put, List.getElem_toArray, List.getElem_cons_zero, List.getElem_cons_succ, List.setIfInBounds_toArray, List.set_cons_zero, List.set_cons_succ])
    refine wpAnyH_ready (rs := [7]) (by kernel_rfl) (by simp) ?_
    refine AllReadyH.cons rfl (fun K hK => ?_) AllReadyH.nil
    rw [if_pos (by rfl)]
    refine wp_put_row 47 (.tmp 4) (.tmp 21) rfl (w2.heap.size) C4 rfl rfl 47 Z R8_r.out 33 infoPh S_C4.out SZ.out O_C4.out w.heap.size w B8.out L3_r.out ?_
    intro w9 hr hs hb
    have R9_m := Lib.hid (hs.row R8_m.out N3_m_r.out)
    have R9_p := Lib.hid (hs.row R8_p.out N3_p_r.out)
    have R9_r := Lib.hid hr
    have B9 := Lib.hid hb
    have hHeld := grownS hHeld hs hb B8.out
    clear hr hs hb
    refine hK.out _ _ hHeld (fun hHeld => ?_)
    clear hK K
    (try simp only [Act.put])
    refine wpAnyH_done (by kernel_rfl) ?_ _
    go_wp2_with fail
    refine bodyPost_ret (v := .agg C4) ?_ rfl ⟨rfl, B9.out⟩
    exact results_cell_row Try.results66 _ _ (w2.heap.size) 47 C4 (0, 0) _ rfl R9_r.out Try.underlying47 rfl I_C4.out
  · show Calls _ _ _ _ (Ret w (.agg (phC (turnG (climbG (backG (barG l)) b) a))))
    have HC := Lib.hid (fun w => conjugateW l hl w)
    have HD := Lib.hid (fun w => backwardsW (barG l) (barG_seq _ hl) w)
    have HE := Lib.hid (fun w => climbedW (backG (barG l)) b (backG_seq _ (barG_seq _ hl)) (by omega) (by omega) w)
    have HT := Lib.hid (fun w => turnedW (climbG (backG (barG l)) b) a (climb_seq _ _ (backG_seq _ (barG_seq _ hl))) (by omega) (by omega) w)
    have S_C0 := Lib.hid (phC_size (l))
    have O_C0 := Lib.hid (phC_one (l))
    have I_C0 := Lib.hid (phC_info (l))
    obtain ⟨C0, h_C0⟩ : ∃ C, C = phC (l) := ⟨_, rfl⟩
    have S_C1 := Lib.hid (phC_size (barG l))
    have O_C1 := Lib.hid (phC_one (barG l))
    have I_C1 := Lib.hid (phC_info (barG l))
    obtain ⟨C1, h_C1⟩ : ∃ C, C = phC (barG l) := ⟨_, rfl⟩
    have S_C2 := Lib.hid (phC_size (backG (barG l)))
    have O_C2 := Lib.hid (phC_one (backG (barG l)))
    have I_C2 := Lib.hid (phC_info (backG (barG l)))
    obtain ⟨C2, h_C2⟩ : ∃ C, C = phC (backG (barG l)) := ⟨_, rfl⟩
    have S_C3 := Lib.hid (phC_size (climbG (backG (barG l)) b))
    have O_C3 := Lib.hid (phC_one (climbG (backG (barG l)) b))
    have I_C3 := Lib.hid (phC_info (climbG (backG (barG l)) b))
    obtain ⟨C3, h_C3⟩ : ∃ C, C = phC (climbG (backG (barG l)) b) := ⟨_, rfl⟩
    have S_C4 := Lib.hid (phC_size (turnG (climbG (backG (barG l)) b) a))
    have O_C4 := Lib.hid (phC_one (turnG (climbG (backG (barG l)) b) a))
    have I_C4 := Lib.hid (phC_info (turnG (climbG (backG (barG l)) b) a))
    obtain ⟨C4, h_C4⟩ : ∃ C, C = phC (turnG (climbG (backG (barG l)) b) a) := ⟨_, rfl⟩
    rw [← h_C0] at S_C0 O_C0 I_C0 HC ⊢
    rw [← h_C1] at S_C1 O_C1 I_C1 HC HD
    rw [← h_C2] at S_C2 O_C2 I_C2 HD HE
    rw [← h_C3] at S_C3 O_C3 I_C3 HE HT
    rw [← h_C4] at S_C4 O_C4 I_C4 HT ⊢
    clear h_C0 h_C1 h_C2 h_C3 h_C4 hl
    obtain ⟨MV, hMV⟩ : ∃ M : Array Value, M = #[.int .i64 a, .int .i64 b, .int .i64 1, .int .i64 1] := ⟨_, rfl⟩
    rw [← hMV] at MC0 MC1 MC2 MC3 ⊢
    clear hMV
    have B0 := Lib.hid (Below.refl w.heap.size w)
    go_enter Try.func66, Try.ntmps66
    go_wp2_with (first
      | ((with_reducible refine at_op (Op.box 71 (.tmp 0)) ?_); refine wpList_box_row rfl 71 (.tmp 0) rfl MV rfl ?_; intro w1 hr hb hz; have R1_m := Lib.hid hr; have B1 := Lib.hid (joins B0.out hb); have L1_m := Lib.hid (show w.heap.size ≤ w.heap.size from B0.out.size); clear hr hb hz)
      | ((with_reducible refine at_op (Op.box 47 (.tmp 1)) ?_); refine wpList_box_row rfl 47 (.tmp 1) rfl C0 rfl ?_; intro w2 hr hb hz; have N2_m_p := Lib.hid (Nat.ne_of_lt (row_lt R1_m.out)); have N2_p_m := Lib.hid (Ne.symm N2_m_p.out); have R2_m := Lib.hid (rowB R1_m.out hb); have R2_p := Lib.hid hr; have B2 := Lib.hid (joins B1.out hb); have L2_p := Lib.hid (show w.heap.size ≤ w1.heap.size from B1.out.size); clear hr hb hz)
      | ((with_reducible refine at_op (d := some 4) (Op.alloc 47) ?_); refine wpList_alloc_row rfl 47 rfl Z ZZ.out ?_; intro w3 hr hb hz; have N3_m_r := Lib.hid (Nat.ne_of_lt (row_lt R2_m.out)); have N3_r_m := Lib.hid (Ne.symm N3_m_r.out); have N3_p_r := Lib.hid (Nat.ne_of_lt (row_lt R2_p.out)); have N3_r_p := Lib.hid (Ne.symm N3_p_r.out); have R3_m := Lib.hid (rowB R2_m.out hb); have R3_p := Lib.hid (rowB R2_p.out hb); have R3_r := Lib.hid hr; have B3 := Lib.hid (joins B2.out hb); have L3_r := Lib.hid (show w.heap.size ≤ w2.heap.size from B2.out.size); have c2_ := rowC R3_m.out MC2.out; clear hr hb hz)
      | ((with_reducible refine at_op (d := some 8) (Op.load 47 (.tmp 3)) ?_); refine wpList_load_part rfl 47 (.tmp 3) rfl (w1.heap.size) 0 rfl C0 C0 47 (0, 0) _ R3_p.out (Part.self _) Try.underlying47 rfl I_C0.out ?_))
    refine (HC.out _).mono ?_
    rintro e w4 ⟨rfl, hb⟩
    have R4_m := Lib.hid (rowB R3_m.out hb)
    have R4_p := Lib.hid (rowB R3_p.out hb)
    have R4_r := Lib.hid (rowB R3_r.out hb)
    have B4 := Lib.hid (joins B3.out hb)
    clear hb
    go_wp2_with (first
      | ((with_reducible refine at_op (Op.store 47 (.tmp 3) (.tmp 9)) ?_); refine wpList_put_row rfl 47 (.tmp 3) (.tmp 9) rfl (w1.heap.size) C1 rfl rfl 47 C0 R4_p.out 33 infoPh S_C1.out S_C0.out O_C1.out w.heap.size w B4.out L2_p.out ?_; intro w5 hr hs hb; have R5_m := Lib.hid (hs.row R4_m.out N2_m_p.out); have R5_r := Lib.hid (hs.row R4_r.out N3_r_p.out); have R5_p := Lib.hid hr; have B5 := Lib.hid hb; have c3_ := rowC R5_m.out MC3.out; clear hr hs hb)
      | ((with_reducible refine at_op (d := some 13) (Op.load 47 (.tmp 3)) ?_); refine wpList_load_part rfl 47 (.tmp 3) rfl (w1.heap.size) 0 rfl C1 C1 47 (0, 0) _ R5_p.out (Part.self _) Try.underlying47 rfl I_C1.out ?_))
    refine (HD.out _).mono ?_
    rintro e w6 ⟨rfl, hb⟩
    have R6_m := Lib.hid (rowB R5_m.out hb)
    have R6_p := Lib.hid (rowB R5_p.out hb)
    have R6_r := Lib.hid (rowB R5_r.out hb)
    have B6 := Lib.hid (joins B5.out hb)
    clear hb
    go_wp2_with ((with_reducible refine at_op (Op.store 47 (.tmp 3) (.tmp 14)) ?_); refine wpList_put_row rfl 47 (.tmp 3) (.tmp 14) rfl (w1.heap.size) C2 rfl rfl 47 C1 R6_p.out 33 infoPh S_C2.out S_C1.out O_C2.out w.heap.size w B6.out L2_p.out ?_; intro w7 hr hs hb; have R7_m := Lib.hid (hs.row R6_m.out N2_m_p.out); have R7_r := Lib.hid (hs.row R6_r.out N3_r_p.out); have R7_p := Lib.hid hr; have B7 := Lib.hid hb; clear hr hs hb)
    go_wp2_with fail
    refine wp_region_held_drew (S := (fun w' => World.grownBy w7 w' (some (w2.heap.size)))) (by kernel_rfl) (grownDrew (World.grownBy.refl _ _)) ?_
    obtain ⟨w8, hdw⟩ : ∃ w', w' = w7.drew := ⟨_, rfl⟩
    rw [← hdw]
    have hb : Below w7.heap.size w7 w8 := by rw [hdw]; exact belowN (Below.refl _ _) 1
    have R8_m := Lib.hid (rowB R7_m.out hb)
    have R8_p := Lib.hid (rowB R7_p.out hb)
    have R8_r := Lib.hid (rowB R7_r.out hb)
    have B8 := Lib.hid (joins B7.out hb)
    clear hdw hb
    intro hHeld
    refine' wpAnyH_take (i := 0) (v := _) rfl (by kernel_rfl) (by kernel_rfl) (by kernel_rfl) (fun _ _ _ h => h) (yieldsPart (by rfl) 47 (.tmp 3) rfl (w1.heap.size) 0 rfl C2 C2 47 (0, 0) _ (fun w h => (rowG R7_p.out h (fun e => N3_p_r.out (Option.some.inj e)))) (Part.self _) Try.underlying47 rfl I_C2.out) (by assumption) ?rest16
    (try simp only [Act.put, List.getElem_toArray, List.getElem_cons_zero, List.setIfInBounds_toArray, List.set_cons_zero, List.set_cons_succ])
    refine' wpAnyH_take (i := 1) (v := _) rfl (by kernel_rfl) (by kernel_rfl) (by kernel_rfl) (fun _ _ _ h => h) (Or.inl ⟨by rfl, ?hy17⟩) (by assumption) ?rest17
    case hy17 =>
      intro w h
      (try clear h)
      go_simp
      (try with_reducible rfl)
    (try simp only [Act.put, List.getElem_toArray, List.getElem_cons_zero, List.getElem_cons_succ, List.setIfInBounds_toArray, List.set_cons_zero, List.set_cons_succ])
    refine' wpAnyH_take (i := 2) (v := _) rfl (by kernel_rfl) (by kernel_rfl) (by kernel_rfl) (fun _ _ _ h => h) (Or.inl ⟨by rfl, ?hy18⟩) (by assumption) ?rest18
    case hy18 =>
      intro w h
      have c1_ := rowC (rowG R7_m.out h (fun e => N3_m_r.out (Option.some.inj e))) MC1.out
      (try clear h)
      go_simp
      (try with_reducible rfl)
    (try simp only [Act.put, List.getElem_toArray, List.getElem_cons_zero, List.getElem_cons_succ, List.setIfInBounds_toArray, List.set_cons_zero, List.set_cons_succ])
    refine' wpAnyH_take (i := 4) (v := _) rfl (by kernel_rfl) (by kernel_rfl) (by kernel_rfl) (fun _ _ _ h => h) (Or.inl ⟨by rfl, ?hy19⟩) (by assumption) ?rest19
    case hy19 =>
      intro w h
      (try clear h)
      go_simp
      (try with_reducible rfl)
    (try simp only [Act.put, List.getElem_toArray, List.getElem_cons_zero, List.getElem_cons_succ, List.setIfInBounds_toArray, List.set_cons_zero, List.set_cons_succ])
    refine' wpAnyH_take (i := 5) (v := _) rfl (by kernel_rfl) (by kernel_rfl) (by kernel_rfl) (fun _ _ _ h => h) (Or.inl ⟨by rfl, ?hy20⟩) (by assumption) ?rest20
    case hy20 =>
      intro w h
      have c0_ := rowC (rowG R7_m.out h (fun e => N3_m_r.out (Option.some.inj e))) MC0.out
      (try clear h)
      go_simp
      (try with_reducible rfl)
    (try simp only [Act.put, List.getElem_toArray, List.getElem_cons_zero, List.getElem_cons_succ, List.setIfInBounds_toArray, List.set_cons_zero, List.set_cons_succ])
    refine wpAnyH_ready (rs := [3]) (by kernel_rfl) (by simp) ?_
    refine AllReadyH.cons rfl (fun K hK => ?_) AllReadyH.nil
    go_simp
    refine (HE.out _).mono ?_
    rintro e w9 ⟨rfl, hb⟩
    have R9_m := Lib.hid (rowB R8_m.out hb)
    have R9_p := Lib.hid (rowB R8_p.out hb)
    have R9_r := Lib.hid (rowB R8_r.out hb)
    have B9 := Lib.hid (joins B8.out hb)
    have hHeld := grownB hHeld hb
    clear hb
    refine hK.out _ _ hHeld (fun hHeld => ?_)
    clear hK K
    (try simp only [Act.put, List.getElem_toArray, List.getElem_cons_zero, List.getElem_cons_succ, List.setIfInBounds_toArray, List.set_cons_zero, List.set_cons_succ])
    refine wpAnyH_ready (rs := [6]) (by kernel_rfl) (by simp) ?_
    refine AllReadyH.cons rfl (fun K hK => ?_) AllReadyH.nil
    go_simp
    refine (HT.out _).mono ?_
    rintro e w10 ⟨rfl, hb⟩
    have R10_m := Lib.hid (rowB R9_m.out hb)
    have R10_p := Lib.hid (rowB R9_p.out hb)
    have R10_r := Lib.hid (rowB R9_r.out hb)
    have B10 := Lib.hid (joins B9.out hb)
    have hHeld := grownB hHeld hb
    clear hb
    refine hK.out _ _ hHeld (fun hHeld => ?_)
    clear hK K
    (try simp only [Act.put, List.getElem_toArray, List.getElem_cons_zero, List.getElem_cons_succ, List.setIfInBounds_toArray, List.set_cons_zero, List.set_cons_succ])
    refine wpAnyH_ready (rs := [7]) (by kernel_rfl) (by simp) ?_
    refine AllReadyH.cons rfl (fun K hK => ?_) AllReadyH.nil
    rw [if_pos (by rfl)]
    refine wp_put_row 47 (.tmp 4) (.tmp 21) rfl (w2.heap.size) C4 rfl rfl 47 Z R10_r.out 33 infoPh S_C4.out SZ.out O_C4.out w.heap.size w B10.out L3_r.out ?_
    intro w11 hr hs hb
    have R11_m := Lib.hid (hs.row R10_m.out N3_m_r.out)
    have R11_p := Lib.hid (hs.row R10_p.out N3_p_r.out)
    have R11_r := Lib.hid hr
    have B11 := Lib.hid hb
    have hHeld := grownS hHeld hs hb B10.out
    clear hr hs hb
    refine hK.out _ _ hHeld (fun hHeld => ?_)
    clear hK K
    (try simp only [Act.put])
    refine wpAnyH_done (by kernel_rfl) ?_ _
    go_wp2_with fail
    refine bodyPost_ret (v := .agg C4) ?_ rfl ⟨rfl, B11.out⟩
    exact results_cell_row Try.results66 _ _ (w2.heap.size) 47 C4 (0, 0) _ rfl R11_r.out Try.underlying47 rfl I_C4.out

end Go.Proofs.Ytcagiecgbjnefab
