/- The program's normal, NormalMatrix. -/
import Derived.Test.YtbppbkoppbnodaaIMt
import Derived.Test.YtbppbkoppbnodaaIMxT
import Derived.Test.YtbppbkoppbnodaaMxP
import Derived.Test.YtbppbkoppbnodaaMaN
namespace Go.Proofs.Ytbppbkoppbnodaa
set_option maxRecDepth 100000
open Go.RowKit

theorem MxR.top {V : Nat → Nat × Nat} {n : Nat} {M : Nat → Nat → Int} (h : MxR V n M) (j : Nat) (hj : j < n) : isV (V j) (M 0 j) := by
  have := h.2.1 0 j (by omega) hj
  rwa [Nat.zero_mul, Nat.zero_add] at this
theorem MxR.left {V : Nat → Nat × Nat} {n : Nat} {M : Nat → Nat → Int} (h : MxR V n M) (i : Nat) (hi : i < n) : isV (V (i * 8)) (M i 0) := h.2.1 i 0 hi (by omega)
/-- The first j columns turned; then the first i rows. -/
def ncV (V : Nat → Nat × Nat) (n : Nat) : Nat → Nat → Nat × Nat
  | 0 => V
  | j + 1 => pg2 j n (fun c => mulB (ncV V n j c) (cj (ncV V n j j))) (ncV V n j)
def nrV (V : Nat → Nat × Nat) (n : Nat) : Nat → Nat → Nat × Nat
  | 0 => V
  | i + 1 => pg1 i n (fun c => mulB (nrV V n i c) (cj (nrV V n i (i * 8)))) (nrV V n i)
def ncM (M : Nat → Nat → Int) (j : Nat) : Nat → Nat → Int := fun a b => if b < j then (M a b - M 0 b) % 4 else M a b
def nrM (M : Nat → Nat → Int) (i : Nat) : Nat → Nat → Int := fun a b => if a < i then (M a b - M a 0) % 4 else M a b
theorem nc_MxR {V : Nat → Nat × Nat} {n : Nat} {M : Nat → Nat → Int} (h : MxR V n M) : ∀ j, j ≤ n → MxR (ncV V n j) n (ncM M j)
  | 0, _ => h.ext (fun a b _ _ => by unfold ncM; rw [if_neg (by omega)])
  | j + 1, hj => by
    have ih := nc_MxR h j (by omega)
    have hx := isV_cj (ih.top j (by omega))
    refine (pg2_MxR ih (i := j) (by omega) hx).ext (fun a b _ hb => ?_)
    unfold ncM
    by_cases e : b = j
    · subst e
      rw [if_pos rfl, if_neg (by omega), if_neg (by omega), if_pos (by omega)]
      omega
    · rw [if_neg e]
      by_cases h2 : b < j
      · rw [if_pos h2, if_pos (by omega)]
      · rw [if_neg h2, if_neg (by omega)]
theorem nr_MxR {V : Nat → Nat × Nat} {n : Nat} {M : Nat → Nat → Int} (h : MxR V n M) : ∀ i, i ≤ n → MxR (nrV V n i) n (nrM M i)
  | 0, _ => h.ext (fun a b _ _ => by unfold nrM; rw [if_neg (by omega)])
  | i + 1, hi => by
    have ih := nr_MxR h i (by omega)
    have hx := isV_cj (ih.left i (by omega))
    refine (pg1_MxR ih (i := i) (by omega) hx).ext (fun a b ha _ => ?_)
    unfold nrM
    by_cases e : a = i
    · subst e
      rw [if_pos rfl, if_neg (by omega), if_neg (by omega), if_pos (by omega)]
      omega
    · rw [if_neg e]
      by_cases h2 : a < i
      · rw [if_pos h2, if_pos (by omega)]
      · rw [if_neg h2, if_neg (by omega)]
set_option maxRecDepth 100000 in
set_option maxHeartbeats 4000000 in
theorem normal_any (V : Nat → Nat × Nat) (n : Nat) (M : Nat → Nat → Int) (hV : MxR V n M) (w : World) : Calls Try.prog 60 #[.agg (mxC V n)] w (Ret w (.agg (mxC (nrV (ncV V n n) n n) n))) := by
  have hn := hV.1
  have HCT := Lib.hid (fun j (hj : j < n) => columnTimes_any (ncV V n j) n _ (nc_MxR hV j (by omega)) j hj (cj (ncV V n j j)) _ (isV_cj ((nc_MxR hV j (by omega)).top j hj)))
  have HRT := Lib.hid (fun i (hi : i < n) => rowTimes_any (nrV (ncV V n n) n i) n _ (nr_MxR (nc_MxR hV n (Nat.le_refl _)) i (by omega)) i hi (cj (nrV (ncV V n n) n i (i * 8))) _ (isV_cj ((nr_MxR (nc_MxR hV n (Nat.le_refl _)) i (by omega)).left i hi)))
  obtain ⟨N, hN⟩ : ∃ N : Nat → Nat → Nat × Nat, N = ncV V n := ⟨_, rfl⟩
  have hs0 : ∀ j, pg2 j n (fun c => mulB (N j c) (cj (N j j))) (N j) = N (j + 1) := fun j => by rw [hN]; rfl
  have hN0 : N 0 = V := by rw [hN]; rfl
  rw [← hN] at HCT HRT ⊢
  obtain ⟨R, hR⟩ : ∃ R : Nat → Nat → Nat × Nat, R = nrV (N n) n := ⟨_, rfl⟩
  have hs1 : ∀ j, pg1 j n (fun c => mulB (R j c) (cj (R j (j * 8)))) (R j) = R (j + 1) := fun j => by rw [hR]; rfl
  have hR0 : N n = R 0 := by rw [hR]; rfl
  rw [← hR] at HRT ⊢
  simp only [hs0] at HCT
  simp only [hs1] at HRT
  rw [← hN0]
  have HR0 := Lib.hid hR0
  have HL := Lib.hid (mxC_side (N 0) n)
  have ZZ := Lib.hid zeroMx
  have SZ := Lib.hid (fun W => mxC_size W n)
  have OZ := Lib.hid (fun W => mxC_one W n)
  have IZ := Lib.hid (fun W => infoMxC W n)
  clear hV hN hR hs0 hs1 hN0 hR0
  have B0 := Lib.hid (Below.refl w.heap.size w)
  go_enter Try.func60, Try.ntmps60
  go_wp2_with (first
    | ((with_reducible refine at_op (Op.box 41 (.tmp 0)) ?_); refine wpList_box_row rfl 41 (.tmp 0) rfl (mxC (N 0) n) rfl ?_; intro w1 hr hb hz; have R1_m := Lib.hid hr; have B1 := Lib.hid (joins B0.out hb); have L1_m := Lib.hid (show w.heap.size ≤ w.heap.size from B0.out.size); have c0 := rowC hr HL.out; clear hr hb hz)
    | ((with_reducible refine at_op (d := some 2) (Op.alloc 41) ?_); refine wpList_alloc_row rfl 41 rfl (mxC V0 0) (fun w => ZZ.out w) ?_; intro w2 hr hb hz; have N2_m_r := Lib.hid (Nat.ne_of_lt (row_lt R1_m.out)); have N2_r_m := Lib.hid (Ne.symm N2_m_r.out); have R2_m := Lib.hid (rowB R1_m.out hb); have R2_r := Lib.hid hr; have B2 := Lib.hid (joins B1.out hb); have L2_r := Lib.hid (show w.heap.size ≤ w1.heap.size from B1.out.size); have c0 := rowC R2_m.out HL.out; clear hr hb hz))
  have LR := Lib.hid L2_r.out
  have NMR := Lib.hid N2_m_r.out
  have NRM := Lib.hid N2_r_m.out
  have RM0 := Lib.hid R2_m.out
  have RR0 := Lib.hid R2_r.out
  have BB0 := Lib.hid B2.out
  have LM := Lib.hid (Nat.le_refl w.heap.size)
  go_loopw [7] (fun q wr => ∃ a : Nat, a ≤ n ∧ q = .int .i64 a ∧ wr.heap[w.heap.size]? = some (.cells (mxC (N a) n) 41 (0, 0)) ∧ wr.heap[w1.heap.size]? = some (.cells (mxC V0 0) 41 (0, 0)) ∧ Below w.heap.size w wr) (fun q _ => n - (intOf q).toNat)
  case atStart => exact ⟨0, Nat.zero_le _, rfl, RM0.out, RR0.out, BB0.out⟩
  case round =>
    obtain ⟨a, ha, rfl, hm, hr, hbel⟩ := hrel
    have RM := Lib.hid hm
    have RR := Lib.hid hr
    have BR := Lib.hid hbel
    have c0 := rowC hm (mxC_side _ _)
    clear hm hr hbel
    by_cases hlt : a < n
    · have h0 : (0 : Int) ≤ (a : Int) := by omega
      have h1 : (a : Int) < (n : Int) := by omega
      have h8a : (a : Int) < 8 := by omega
      have HT := Lib.hid (HCT.out a hlt)
      have HC := Lib.hid (conjugateValue_any (N a (a)).1 (N a (a)).2)
      go_wp2_with fail
      refine wp_region_held_drew (S := (fun w' => World.grownBy wr w' (some (w.heap.size)))) (by kernel_rfl) (grownDrew (World.grownBy.refl _ _)) ?_
      obtain ⟨w11, hdw⟩ : ∃ w', w' = wr.drew := ⟨_, rfl⟩
      rw [← hdw]
      have hb : Below wr.heap.size wr w11 := by rw [hdw]; exact belowN (Below.refl _ _) 1
      have R11_m := Lib.hid (rowB RM.out hb)
      have R11_r := Lib.hid (rowB RR.out hb)
      have B11 := Lib.hid (joins BR.out hb)
      clear hdw hb
      intro hHeld
      refine' wpAnyH_take (i := 1) (v := _) rfl (by kernel_rfl) (by kernel_rfl) (by kernel_rfl) (fun _ _ _ h => h) (Or.inl ⟨by rfl, ?hy1⟩) (by assumption) ?rest1
      case hy1 =>
        intro w h
        (try clear h)
        go_simp
        (try with_reducible rfl)
      (try simp only [Act.put, List.getElem_toArray, List.getElem_cons_zero, List.getElem_cons_succ, List.setIfInBounds_toArray, List.set_cons_zero, List.set_cons_succ])
      refine' wpAnyH_take (i := 2) (v := _) rfl (by kernel_rfl) (by kernel_rfl) (by kernel_rfl) (fun _ _ _ h => h) (Or.inl ⟨by rfl, ?hy2⟩) (by assumption) ?rest2
      case hy2 =>
        intro w h
        (try clear h)
        go_simp
        (try with_reducible rfl)
      (try simp only [Act.put, List.getElem_toArray, List.getElem_cons_zero, List.getElem_cons_succ, List.setIfInBounds_toArray, List.set_cons_zero, List.set_cons_succ])
      refine' wpAnyH_take (i := 3) (v := _) rfl (by kernel_rfl) (by kernel_rfl) (by kernel_rfl) (fun _ _ _ h => h) (Or.inl ⟨by rfl, ?hy3⟩) (by assumption) ?rest3
      case hy3 =>
        intro w h
        (try clear h)
        go_simp
        (try with_reducible rfl)
      (try simp only [Act.put, List.getElem_toArray, List.getElem_cons_zero, List.getElem_cons_succ, List.setIfInBounds_toArray, List.set_cons_zero, List.set_cons_succ])
      refine' wpAnyH_take (i := 4) (v := _) rfl (by kernel_rfl) (by kernel_rfl) (by kernel_rfl) (fun _ _ _ h => h) (Or.inl ⟨by rfl, ?hy4⟩) (by assumption) ?rest4
      case hy4 =>
        intro w h
        (try clear h)
        go_simp
        (try with_reducible rfl)
      (try simp only [Act.put, List.getElem_toArray, List.getElem_cons_zero, List.getElem_cons_succ, List.setIfInBounds_toArray, List.set_cons_zero, List.set_cons_succ])
      refine' wpAnyH_take (i := 5) (v := _) rfl (by kernel_rfl) (by kernel_rfl) (by kernel_rfl) (fun _ _ _ h => h) (Or.inl ⟨by rfl, ?hy5⟩) (by assumption) ?rest5
      case hy5 =>
        intro w h
        (try clear h)
        go_simp
        (try with_reducible rfl)
      (try simp only [Act.put, List.getElem_toArray, List.getElem_cons_zero, List.getElem_cons_succ, List.setIfInBounds_toArray, List.set_cons_zero, List.set_cons_succ])
      refine wpAnyH_ready (rs := [0, 6]) (by kernel_rfl) (by simp) ?_
      refine AllReadyH.cons rfl (fun K hK => ?_) (AllReadyH.cons rfl (fun K hK => ?_) AllReadyH.nil)
      · rw [if_pos (by rfl)]
        refine wp_load_part 41 (.tmp 1) rfl (w.heap.size) 0 rfl (mxC (N a) n) (mxC (N a) n) 41 (0, 0) _ R11_m.out (Part.self _) Try.underlying41 rfl (IZ.out _) ?_
        refine hK.out _ _ hHeld (fun hHeld => ?_)
        clear hK K
        (try simp only [Act.put, List.getElem_toArray, List.getElem_cons_zero, List.setIfInBounds_toArray, List.set_cons_zero, List.set_cons_succ])
        refine wpAnyH_ready (rs := [6]) (by kernel_rfl) (by simp) ?_
        refine AllReadyH.cons rfl (fun K hK => ?_) AllReadyH.nil
        have cs := cell_row R11_m.out (c := a) (by omega)
        go_simp
        refine hK.out _ _ hHeld (fun hHeld => ?_)
        clear hK K
        (try simp only [Act.put, List.getElem_toArray, List.getElem_cons_zero, List.getElem_cons_succ, List.setIfInBounds_toArray, List.set_cons_zero, List.set_cons_succ])
        refine wpAnyH_ready (rs := [7]) (by kernel_rfl) (by simp) ?_
        refine AllReadyH.cons rfl (fun K hK => ?_) AllReadyH.nil
        go_simp
        refine (HC.out _).mono ?_
        rintro e w' ⟨rfl, rfl⟩
        refine hK.out _ _ hHeld (fun hHeld => ?_)
        clear hK K
        (try simp only [Act.put, List.getElem_toArray, List.getElem_cons_zero, List.getElem_cons_succ, List.setIfInBounds_toArray, List.set_cons_zero, List.set_cons_succ])
        refine wpAnyH_ready (rs := [8]) (by kernel_rfl) (by simp) ?_
        refine AllReadyH.cons rfl (fun K hK => ?_) AllReadyH.nil
        go_simp
        refine (HT.out _).mono ?_
        rintro e w12 ⟨rfl, hb⟩
        have R12_m := Lib.hid (rowB R11_m.out hb)
        have R12_r := Lib.hid (rowB R11_r.out hb)
        have B12 := Lib.hid (joins B11.out hb)
        have hHeld := grownB hHeld hb
        clear hb
        refine hK.out _ _ hHeld (fun hHeld => ?_)
        clear hK K
        (try simp only [Act.put, List.getElem_toArray, List.getElem_cons_zero, List.getElem_cons_succ, List.setIfInBounds_toArray, List.set_cons_zero, List.set_cons_succ])
        refine wpAnyH_ready (rs := [9]) (by kernel_rfl) (by simp) ?_
        refine AllReadyH.cons rfl (fun K hK => ?_) AllReadyH.nil
        rw [if_pos (by rfl)]
        refine wp_put_row 41 (.tmp 1) (.tmp 18) rfl (w.heap.size) (mxC (N (a + 1)) n) rfl rfl 41 (mxC (N a) n) R12_m.out 65 infoMx (SZ.out _) (SZ.out _) (OZ.out _) w.heap.size w B12.out LM.out ?_
        intro w13 hr hs hb
        have R13_r := Lib.hid (hs.row R12_r.out NRM.out)
        have R13_m := Lib.hid hr
        have B13 := Lib.hid hb
        have hHeld := grownS hHeld hs hb B12.out
        clear hr hs hb
        refine hK.out _ _ hHeld (fun hHeld => ?_)
        clear hK K
        (try simp only [Act.put])
        refine wpAnyH_done (by kernel_rfl) ?_ _
        go_wp2_with fail
        go_roundw
        case rel => exact ⟨a + 1, by omega, by go_num, R13_m.out, R13_r.out, B13.out⟩
        case measure => simp [intOf]; omega
      · have cs := cell_row R11_m.out (c := a) (by omega)
        go_simp
        refine hK.out _ _ hHeld (fun hHeld => ?_)
        clear hK K
        (try simp only [Act.put, List.getElem_toArray, List.getElem_cons_zero, List.getElem_cons_succ, List.setIfInBounds_toArray, List.set_cons_zero, List.set_cons_succ])
        refine wpAnyH_ready (rs := [0, 7]) (by kernel_rfl) (by simp) ?_
        refine AllReadyH.cons rfl (fun K hK => ?_) (AllReadyH.cons rfl (fun K hK => ?_) AllReadyH.nil)
        · rw [if_pos (by rfl)]
          refine wp_load_part 41 (.tmp 1) rfl (w.heap.size) 0 rfl (mxC (N a) n) (mxC (N a) n) 41 (0, 0) _ R11_m.out (Part.self _) Try.underlying41 rfl (IZ.out _) ?_
          refine hK.out _ _ hHeld (fun hHeld => ?_)
          clear hK K
          (try simp only [Act.put, List.getElem_toArray, List.getElem_cons_zero, List.setIfInBounds_toArray, List.set_cons_zero, List.set_cons_succ])
          refine wpAnyH_ready (rs := [7]) (by kernel_rfl) (by simp) ?_
          refine AllReadyH.cons rfl (fun K hK => ?_) AllReadyH.nil
          go_simp
          refine (HC.out _).mono ?_
          rintro e w' ⟨rfl, rfl⟩
          refine hK.out _ _ hHeld (fun hHeld => ?_)
          clear hK K
          (try simp only [Act.put, List.getElem_toArray, List.getElem_cons_zero, List.getElem_cons_succ, List.setIfInBounds_toArray, List.set_cons_zero, List.set_cons_succ])
          refine wpAnyH_ready (rs := [8]) (by kernel_rfl) (by simp) ?_
          refine AllReadyH.cons rfl (fun K hK => ?_) AllReadyH.nil
          go_simp
          refine (HT.out _).mono ?_
          rintro e w12 ⟨rfl, hb⟩
          have R12_m := Lib.hid (rowB R11_m.out hb)
          have R12_r := Lib.hid (rowB R11_r.out hb)
          have B12 := Lib.hid (joins B11.out hb)
          have hHeld := grownB hHeld hb
          clear hb
          refine hK.out _ _ hHeld (fun hHeld => ?_)
          clear hK K
          (try simp only [Act.put, List.getElem_toArray, List.getElem_cons_zero, List.getElem_cons_succ, List.setIfInBounds_toArray, List.set_cons_zero, List.set_cons_succ])
          refine wpAnyH_ready (rs := [9]) (by kernel_rfl) (by simp) ?_
          refine AllReadyH.cons rfl (fun K hK => ?_) AllReadyH.nil
          rw [if_pos (by rfl)]
          refine wp_put_row 41 (.tmp 1) (.tmp 18) rfl (w.heap.size) (mxC (N (a + 1)) n) rfl rfl 41 (mxC (N a) n) R12_m.out 65 infoMx (SZ.out _) (SZ.out _) (OZ.out _) w.heap.size w B12.out LM.out ?_
          intro w13 hr hs hb
          have R13_r := Lib.hid (hs.row R12_r.out NRM.out)
          have R13_m := Lib.hid hr
          have B13 := Lib.hid hb
          have hHeld := grownS hHeld hs hb B12.out
          clear hr hs hb
          refine hK.out _ _ hHeld (fun hHeld => ?_)
          clear hK K
          (try simp only [Act.put])
          refine wpAnyH_done (by kernel_rfl) ?_ _
          go_wp2_with fail
          go_roundw
          case rel => exact ⟨a + 1, by omega, by go_num, R13_m.out, R13_r.out, B13.out⟩
          case measure => simp [intOf]; omega
        · go_simp
          refine (HC.out _).mono ?_
          rintro e w' ⟨rfl, rfl⟩
          refine hK.out _ _ hHeld (fun hHeld => ?_)
          clear hK K
          (try simp only [Act.put, List.getElem_toArray, List.getElem_cons_zero, List.getElem_cons_succ, List.setIfInBounds_toArray, List.set_cons_zero, List.set_cons_succ])
          refine wpAnyH_ready (rs := [0]) (by kernel_rfl) (by simp) ?_
          refine AllReadyH.cons rfl (fun K hK => ?_) AllReadyH.nil
          rw [if_pos (by rfl)]
          refine wp_load_part 41 (.tmp 1) rfl (w.heap.size) 0 rfl (mxC (N a) n) (mxC (N a) n) 41 (0, 0) _ R11_m.out (Part.self _) Try.underlying41 rfl (IZ.out _) ?_
          refine hK.out _ _ hHeld (fun hHeld => ?_)
          clear hK K
          (try simp only [Act.put, List.getElem_toArray, List.getElem_cons_zero, List.setIfInBounds_toArray, List.set_cons_zero, List.set_cons_succ])
          refine wpAnyH_ready (rs := [8]) (by kernel_rfl) (by simp) ?_
          refine AllReadyH.cons rfl (fun K hK => ?_) AllReadyH.nil
          go_simp
          refine (HT.out _).mono ?_
          rintro e w12 ⟨rfl, hb⟩
          have R12_m := Lib.hid (rowB R11_m.out hb)
          have R12_r := Lib.hid (rowB R11_r.out hb)
          have B12 := Lib.hid (joins B11.out hb)
          have hHeld := grownB hHeld hb
          clear hb
          refine hK.out _ _ hHeld (fun hHeld => ?_)
          clear hK K
          (try simp only [Act.put, List.getElem_toArray, List.getElem_cons_zero, List.getElem_cons_succ, List.setIfInBounds_toArray, List.set_cons_zero, List.set_cons_succ])
          refine wpAnyH_ready (rs := [9]) (by kernel_rfl) (by simp) ?_
          refine AllReadyH.cons rfl (fun K hK => ?_) AllReadyH.nil
          rw [if_pos (by rfl)]
          refine wp_put_row 41 (.tmp 1) (.tmp 18) rfl (w.heap.size) (mxC (N (a + 1)) n) rfl rfl 41 (mxC (N a) n) R12_m.out 65 infoMx (SZ.out _) (SZ.out _) (OZ.out _) w.heap.size w B12.out LM.out ?_
          intro w13 hr hs hb
          have R13_r := Lib.hid (hs.row R12_r.out NRM.out)
          have R13_m := Lib.hid hr
          have B13 := Lib.hid hb
          have hHeld := grownS hHeld hs hb B12.out
          clear hr hs hb
          refine hK.out _ _ hHeld (fun hHeld => ?_)
          clear hK K
          (try simp only [Act.put])
          refine wpAnyH_done (by kernel_rfl) ?_ _
          go_wp2_with fail
          go_roundw
          case rel => exact ⟨a + 1, by omega, by go_num, R13_m.out, R13_r.out, B13.out⟩
          case measure => simp [intOf]; omega
    · obtain rfl : n = a := by omega
      rw [HR0.out] at RM
      have RM0 := RM
      have RR0 := RR
      have BB0 := BR
      clear RM RR BR
      go_wp2_with fail
      go_loopw [22] (fun q wr => ∃ d : Nat, d ≤ n ∧ q = .int .i64 d ∧ wr.heap[w.heap.size]? = some (.cells (mxC (R d) n) 41 (0, 0)) ∧ wr.heap[w1.heap.size]? = some (.cells (mxC V0 0) 41 (0, 0)) ∧ Below w.heap.size w wr) (fun q _ => n - (intOf q).toNat)
      case atStart => exact ⟨0, Nat.zero_le _, rfl, RM0.out, RR0.out, BB0.out⟩
      case round =>
        obtain ⟨d, hd, rfl, hm, hr, hbel⟩ := hrel
        have RM := Lib.hid hm
        have RR := Lib.hid hr
        have BR := Lib.hid hbel
        have c0 := rowC hm (mxC_side _ _)
        clear hm hr hbel
        by_cases hlt2 : d < n
        · have h0 : (0 : Int) ≤ (d : Int) := by omega
          have h1 : (d : Int) < (n : Int) := by omega
          have h8a : (d : Int) < 8 := by omega
          have HT := Lib.hid (HRT.out d hlt2)
          have HC := Lib.hid (conjugateValue_any (R d (d * 8 + 0)).1 (R d (d * 8 + 0)).2)
          go_wp2_with fail
          refine wp_region_held_drew (S := (fun w' => World.grownBy wr w' (some (w.heap.size)))) (by kernel_rfl) (grownDrew (World.grownBy.refl _ _)) ?_
          obtain ⟨w11, hdw⟩ : ∃ w', w' = wr.drew := ⟨_, rfl⟩
          rw [← hdw]
          have hb : Below wr.heap.size wr w11 := by rw [hdw]; exact belowN (Below.refl _ _) 1
          have R11_m := Lib.hid (rowB RM.out hb)
          have R11_r := Lib.hid (rowB RR.out hb)
          have B11 := Lib.hid (joins BR.out hb)
          clear hdw hb
          intro hHeld
          refine' wpAnyH_take (i := 1) (v := _) rfl (by kernel_rfl) (by kernel_rfl) (by kernel_rfl) (fun _ _ _ h => h) (Or.inl ⟨by rfl, ?hy6⟩) (by assumption) ?rest6
          case hy6 =>
            intro w h
            (try clear h)
            go_simp
            (try with_reducible rfl)
          (try simp only [Act.put, List.getElem_toArray, List.getElem_cons_zero, List.getElem_cons_succ, List.setIfInBounds_toArray, List.set_cons_zero, List.set_cons_succ])
          refine' wpAnyH_take (i := 2) (v := _) rfl (by kernel_rfl) (by kernel_rfl) (by kernel_rfl) (fun _ _ _ h => h) (Or.inl ⟨by rfl, ?hy7⟩) (by assumption) ?rest7
          case hy7 =>
            intro w h
            (try clear h)
            go_simp
            (try with_reducible rfl)
          (try simp only [Act.put, List.getElem_toArray, List.getElem_cons_zero, List.getElem_cons_succ, List.setIfInBounds_toArray, List.set_cons_zero, List.set_cons_succ])
          refine' wpAnyH_take (i := 3) (v := _) rfl (by kernel_rfl) (by kernel_rfl) (by kernel_rfl) (fun _ _ _ h => h) (Or.inl ⟨by rfl, ?hy8⟩) (by assumption) ?rest8
          case hy8 =>
            intro w h
            (try clear h)
            go_simp
            (try with_reducible rfl)
          (try simp only [Act.put, List.getElem_toArray, List.getElem_cons_zero, List.getElem_cons_succ, List.setIfInBounds_toArray, List.set_cons_zero, List.set_cons_succ])
          refine' wpAnyH_take (i := 4) (v := _) rfl (by kernel_rfl) (by kernel_rfl) (by kernel_rfl) (fun _ _ _ h => h) (Or.inl ⟨by rfl, ?hy9⟩) (by assumption) ?rest9
          case hy9 =>
            intro w h
            (try clear h)
            go_simp
            (try with_reducible rfl)
          (try simp only [Act.put, List.getElem_toArray, List.getElem_cons_zero, List.getElem_cons_succ, List.setIfInBounds_toArray, List.set_cons_zero, List.set_cons_succ])
          refine' wpAnyH_take (i := 5) (v := _) rfl (by kernel_rfl) (by kernel_rfl) (by kernel_rfl) (fun _ _ _ h => h) (Or.inl ⟨by rfl, ?hy10⟩) (by assumption) ?rest10
          case hy10 =>
            intro w h
            (try clear h)
            go_simp
            (try with_reducible rfl)
          (try simp only [Act.put, List.getElem_toArray, List.getElem_cons_zero, List.getElem_cons_succ, List.setIfInBounds_toArray, List.set_cons_zero, List.set_cons_succ])
          refine wpAnyH_ready (rs := [0, 6]) (by kernel_rfl) (by simp) ?_
          refine AllReadyH.cons rfl (fun K hK => ?_) (AllReadyH.cons rfl (fun K hK => ?_) AllReadyH.nil)
          · rw [if_pos (by rfl)]
            refine wp_load_part 41 (.tmp 1) rfl (w.heap.size) 0 rfl (mxC (R d) n) (mxC (R d) n) 41 (0, 0) _ R11_m.out (Part.self _) Try.underlying41 rfl (IZ.out _) ?_
            refine hK.out _ _ hHeld (fun hHeld => ?_)
            clear hK K
            (try simp only [Act.put, List.getElem_toArray, List.getElem_cons_zero, List.setIfInBounds_toArray, List.set_cons_zero, List.set_cons_succ])
            refine wpAnyH_ready (rs := [6]) (by kernel_rfl) (by simp) ?_
            refine AllReadyH.cons rfl (fun K hK => ?_) AllReadyH.nil
            have cs := cell_row R11_m.out (c := d * 8) (by omega)
            go_simp
            refine hK.out _ _ hHeld (fun hHeld => ?_)
            clear hK K
            (try simp only [Act.put, List.getElem_toArray, List.getElem_cons_zero, List.getElem_cons_succ, List.setIfInBounds_toArray, List.set_cons_zero, List.set_cons_succ])
            refine wpAnyH_ready (rs := [7]) (by kernel_rfl) (by simp) ?_
            refine AllReadyH.cons rfl (fun K hK => ?_) AllReadyH.nil
            go_simp
            refine (HC.out _).mono ?_
            rintro e w' ⟨rfl, rfl⟩
            refine hK.out _ _ hHeld (fun hHeld => ?_)
            clear hK K
            (try simp only [Act.put, List.getElem_toArray, List.getElem_cons_zero, List.getElem_cons_succ, List.setIfInBounds_toArray, List.set_cons_zero, List.set_cons_succ])
            refine wpAnyH_ready (rs := [8]) (by kernel_rfl) (by simp) ?_
            refine AllReadyH.cons rfl (fun K hK => ?_) AllReadyH.nil
            go_simp
            refine (HT.out _).mono ?_
            rintro e w12 ⟨rfl, hb⟩
            have R12_m := Lib.hid (rowB R11_m.out hb)
            have R12_r := Lib.hid (rowB R11_r.out hb)
            have B12 := Lib.hid (joins B11.out hb)
            have hHeld := grownB hHeld hb
            clear hb
            refine hK.out _ _ hHeld (fun hHeld => ?_)
            clear hK K
            (try simp only [Act.put, List.getElem_toArray, List.getElem_cons_zero, List.getElem_cons_succ, List.setIfInBounds_toArray, List.set_cons_zero, List.set_cons_succ])
            refine wpAnyH_ready (rs := [9]) (by kernel_rfl) (by simp) ?_
            refine AllReadyH.cons rfl (fun K hK => ?_) AllReadyH.nil
            rw [if_pos (by rfl)]
            refine wp_put_row 41 (.tmp 1) (.tmp 33) rfl (w.heap.size) (mxC (R (d + 1)) n) rfl rfl 41 (mxC (R d) n) R12_m.out 65 infoMx (SZ.out _) (SZ.out _) (OZ.out _) w.heap.size w B12.out LM.out ?_
            intro w13 hr hs hb
            have R13_r := Lib.hid (hs.row R12_r.out NRM.out)
            have R13_m := Lib.hid hr
            have B13 := Lib.hid hb
            have hHeld := grownS hHeld hs hb B12.out
            clear hr hs hb
            refine hK.out _ _ hHeld (fun hHeld => ?_)
            clear hK K
            (try simp only [Act.put])
            refine wpAnyH_done (by kernel_rfl) ?_ _
            go_wp2_with fail
            go_roundw
            case rel => exact ⟨d + 1, by omega, by go_num, R13_m.out, R13_r.out, B13.out⟩
            case measure => simp [intOf]; omega
          · have cs := cell_row R11_m.out (c := d * 8) (by omega)
            go_simp
            refine hK.out _ _ hHeld (fun hHeld => ?_)
            clear hK K
            (try simp only [Act.put, List.getElem_toArray, List.getElem_cons_zero, List.getElem_cons_succ, List.setIfInBounds_toArray, List.set_cons_zero, List.set_cons_succ])
            refine wpAnyH_ready (rs := [0, 7]) (by kernel_rfl) (by simp) ?_
            refine AllReadyH.cons rfl (fun K hK => ?_) (AllReadyH.cons rfl (fun K hK => ?_) AllReadyH.nil)
            · rw [if_pos (by rfl)]
              refine wp_load_part 41 (.tmp 1) rfl (w.heap.size) 0 rfl (mxC (R d) n) (mxC (R d) n) 41 (0, 0) _ R11_m.out (Part.self _) Try.underlying41 rfl (IZ.out _) ?_
              refine hK.out _ _ hHeld (fun hHeld => ?_)
              clear hK K
              (try simp only [Act.put, List.getElem_toArray, List.getElem_cons_zero, List.setIfInBounds_toArray, List.set_cons_zero, List.set_cons_succ])
              refine wpAnyH_ready (rs := [7]) (by kernel_rfl) (by simp) ?_
              refine AllReadyH.cons rfl (fun K hK => ?_) AllReadyH.nil
              go_simp
              refine (HC.out _).mono ?_
              rintro e w' ⟨rfl, rfl⟩
              refine hK.out _ _ hHeld (fun hHeld => ?_)
              clear hK K
              (try simp only [Act.put, List.getElem_toArray, List.getElem_cons_zero, List.getElem_cons_succ, List.setIfInBounds_toArray, List.set_cons_zero, List.set_cons_succ])
              refine wpAnyH_ready (rs := [8]) (by kernel_rfl) (by simp) ?_
              refine AllReadyH.cons rfl (fun K hK => ?_) AllReadyH.nil
              go_simp
              refine (HT.out _).mono ?_
              rintro e w12 ⟨rfl, hb⟩
              have R12_m := Lib.hid (rowB R11_m.out hb)
              have R12_r := Lib.hid (rowB R11_r.out hb)
              have B12 := Lib.hid (joins B11.out hb)
              have hHeld := grownB hHeld hb
              clear hb
              refine hK.out _ _ hHeld (fun hHeld => ?_)
              clear hK K
              (try simp only [Act.put, List.getElem_toArray, List.getElem_cons_zero, List.getElem_cons_succ, List.setIfInBounds_toArray, List.set_cons_zero, List.set_cons_succ])
              refine wpAnyH_ready (rs := [9]) (by kernel_rfl) (by simp) ?_
              refine AllReadyH.cons rfl (fun K hK => ?_) AllReadyH.nil
              rw [if_pos (by rfl)]
              refine wp_put_row 41 (.tmp 1) (.tmp 33) rfl (w.heap.size) (mxC (R (d + 1)) n) rfl rfl 41 (mxC (R d) n) R12_m.out 65 infoMx (SZ.out _) (SZ.out _) (OZ.out _) w.heap.size w B12.out LM.out ?_
              intro w13 hr hs hb
              have R13_r := Lib.hid (hs.row R12_r.out NRM.out)
              have R13_m := Lib.hid hr
              have B13 := Lib.hid hb
              have hHeld := grownS hHeld hs hb B12.out
              clear hr hs hb
              refine hK.out _ _ hHeld (fun hHeld => ?_)
              clear hK K
              (try simp only [Act.put])
              refine wpAnyH_done (by kernel_rfl) ?_ _
              go_wp2_with fail
              go_roundw
              case rel => exact ⟨d + 1, by omega, by go_num, R13_m.out, R13_r.out, B13.out⟩
              case measure => simp [intOf]; omega
            · go_simp
              refine (HC.out _).mono ?_
              rintro e w' ⟨rfl, rfl⟩
              refine hK.out _ _ hHeld (fun hHeld => ?_)
              clear hK K
              (try simp only [Act.put, List.getElem_toArray, List.getElem_cons_zero, List.getElem_cons_succ, List.setIfInBounds_toArray, List.set_cons_zero, List.set_cons_succ])
              refine wpAnyH_ready (rs := [0]) (by kernel_rfl) (by simp) ?_
              refine AllReadyH.cons rfl (fun K hK => ?_) AllReadyH.nil
              rw [if_pos (by rfl)]
              refine wp_load_part 41 (.tmp 1) rfl (w.heap.size) 0 rfl (mxC (R d) n) (mxC (R d) n) 41 (0, 0) _ R11_m.out (Part.self _) Try.underlying41 rfl (IZ.out _) ?_
              refine hK.out _ _ hHeld (fun hHeld => ?_)
              clear hK K
              (try simp only [Act.put, List.getElem_toArray, List.getElem_cons_zero, List.setIfInBounds_toArray, List.set_cons_zero, List.set_cons_succ])
              refine wpAnyH_ready (rs := [8]) (by kernel_rfl) (by simp) ?_
              refine AllReadyH.cons rfl (fun K hK => ?_) AllReadyH.nil
              go_simp
              refine (HT.out _).mono ?_
              rintro e w12 ⟨rfl, hb⟩
              have R12_m := Lib.hid (rowB R11_m.out hb)
              have R12_r := Lib.hid (rowB R11_r.out hb)
              have B12 := Lib.hid (joins B11.out hb)
              have hHeld := grownB hHeld hb
              clear hb
              refine hK.out _ _ hHeld (fun hHeld => ?_)
              clear hK K
              (try simp only [Act.put, List.getElem_toArray, List.getElem_cons_zero, List.getElem_cons_succ, List.setIfInBounds_toArray, List.set_cons_zero, List.set_cons_succ])
              refine wpAnyH_ready (rs := [9]) (by kernel_rfl) (by simp) ?_
              refine AllReadyH.cons rfl (fun K hK => ?_) AllReadyH.nil
              rw [if_pos (by rfl)]
              refine wp_put_row 41 (.tmp 1) (.tmp 33) rfl (w.heap.size) (mxC (R (d + 1)) n) rfl rfl 41 (mxC (R d) n) R12_m.out 65 infoMx (SZ.out _) (SZ.out _) (OZ.out _) w.heap.size w B12.out LM.out ?_
              intro w13 hr hs hb
              have R13_r := Lib.hid (hs.row R12_r.out NRM.out)
              have R13_m := Lib.hid hr
              have B13 := Lib.hid hb
              have hHeld := grownS hHeld hs hb B12.out
              clear hr hs hb
              refine hK.out _ _ hHeld (fun hHeld => ?_)
              clear hK K
              (try simp only [Act.put])
              refine wpAnyH_done (by kernel_rfl) ?_ _
              go_wp2_with fail
              go_roundw
              case rel => exact ⟨d + 1, by omega, by go_num, R13_m.out, R13_r.out, B13.out⟩
              case measure => simp [intOf]; omega
        · obtain rfl : d = n := by omega
          have IW := Lib.hid (IZ.out (R d))
          obtain ⟨W, hW⟩ : ∃ W, W = mxC (R d) d := ⟨_, rfl⟩
          have SW := Lib.hid (SZ.out (R d))
          have OW := Lib.hid (OZ.out (R d))
          rw [← hW] at RM IW SW OW
          have HW := Lib.hid hW
          clear hW
          go_wp2_with (first
            | ((with_reducible refine at_op (Op.load 41 (.tmp 1)) ?_); refine wpList_load_part rfl 41 (.tmp 1) rfl (w.heap.size) 0 rfl W W 41 (0, 0) _ RM.out (Part.self _) Try.underlying41 rfl IW.out ?_)
            | ((with_reducible refine at_op (Op.store 41 (.tmp 2) (.tmp 35)) ?_); refine wpList_put_row rfl 41 (.tmp 2) (.tmp 35) rfl (w1.heap.size) W rfl rfl 41 (mxC V0 0) RR.out 65 infoMx SW.out (mxC_size _ _) OW.out w.heap.size w BR.out LR.out ?_; intro w41 hr hs hb; have R41_m := Lib.hid (hs.row RM.out NMR.out); have R41_r := Lib.hid hr; have B41 := Lib.hid hb; clear hr hs hb))
          refine bodyPost_ret (v := .agg W) ?_ rfl ⟨by rw [HW.out], B41.out⟩
          exact results_cell_row Try.results60 _ _ (w1.heap.size) 41 W (0, 0) _ rfl R41_r.out Try.underlying41 rfl IW.out
set_option maxHeartbeats 1000000 in
theorem inormalMatrix (v : Value) (m : List (List Int)) (w : World) (hv : IR w v m) (hl : sz2 m ≤ 1048576) : Calls Try.prog 31 #[v] w (MakesRB w (noA m) (maOk m)) := by
  have HM := Lib.hid (fun w' (h : Below w.heap.size w w') => matrixFrom_any v m w' (hv.below h) hl)
  have hR := mf_MxR m
  have HT := Lib.hid (normal_any (mfV m) (mfN m) _ hR)
  have hLs := lists_any _ _ _ (nr_MxR (nc_MxR hR (mfN m) (Nat.le_refl _)) (mfN m) (Nat.le_refl _))
  have e : genR (mfN m) (fun i => gen (mfN m) (nrM (ncM (atM m) (mfN m)) (mfN m) i)) = noA m := by
    rw [mf_gen]
    unfold noA
    cases h : maOk m with
    | true =>
      rw [if_pos rfl, if_pos rfl, mf_yes h]
      have hl1 : (nmL (ovL m)).length = m.length := by rw [nmL_length, ovL_length]
      have hn1 : ∀ a b, a < m.length → b < m.length → atM (nmL (ovL m)) a b = (atM m b a - atM m 0 a) % 4 := fun a b ha hb => by
        have ha' : a < (ovL m).length := by rw [ovL_length]; exact ha
        show ((nmL (ovL m)).getD a []).getD b 0 = _
        unfold nmL
        rw [genR_getD _ _ _ ha']
        unfold nmR turnG
        have hsq := ovL_sq m a ha'
        rw [ovL_length] at hsq
        rw [hsq, gen_getD _ _ _ hb, atM_ov m a 0 ha (by omega)]
        have := atM_ov m a b ha hb
        unfold atM at this ⊢
        rw [this, Int.sub_eq_add_neg]
      have hl2 : (ovL (nmL (ovL m))).length = m.length := by rw [ovL_length, hl1]
      have hn2 : ∀ a b, a < m.length → b < m.length → atM (ovL (nmL (ovL m))) a b = (atM m a b - atM m 0 b) % 4 := fun a b ha hb => by
        rw [atM_ov _ a b (by rw [hl1]; exact ha) (by rw [hl1]; exact hb), hn1 b a hb ha]
      show _ = genR (ovL (nmL (ovL m))).length (nmR (ovL (nmL (ovL m))))
      rw [hl2]
      refine genR_ext (fun a ha => ?_)
      unfold nmR turnG
      have hsq := ovL_sq (nmL (ovL m)) a (by rw [hl2]; exact ha)
      rw [hl2] at hsq
      rw [hsq]
      refine gen_ext (fun b hb => ?_)
      have h1 := hn2 a b ha hb
      have h2 := hn2 a 0 ha (by omega)
      unfold nrM ncM
      rw [if_pos ha, if_pos hb, if_pos (by omega), h2]
      unfold atM at h1 ⊢
      rw [h1]
      omega
    | false => rfl
  rw [e, mf_ok] at hLs
  have HLS := Lib.hid hLs
  obtain ⟨C, hC⟩ : ∃ C, C = mxC (mfV m) (mfN m) := ⟨_, rfl⟩
  obtain ⟨D, hD⟩ : ∃ C, C = mxC (nrV (ncV (mfV m) (mfN m) (mfN m)) (mfN m) (mfN m)) (mfN m) := ⟨_, rfl⟩
  rw [← hC] at HM HT
  rw [← hD] at HT HLS
  obtain ⟨pa, cap, rfl⟩ := hv.slice
  clear hv hR hLs e hC hD
  have B0 := Lib.hid (Below.refl w.heap.size w)
  go_enter Try.func31, Try.ntmps31
  go_wp2_with fail
  refine (HM.out _ B0.out).mono ?_
  rintro e w1 ⟨rfl, hb⟩
  have B1 := Lib.hid (joins B0.out hb)
  clear hb
  go_wp2_with fail
  refine (HT.out _).mono ?_
  rintro e w2 ⟨rfl, hb⟩
  have B2 := Lib.hid (joins B1.out hb)
  clear hb
  go_wp2_with fail
  refine (HLS.out _).mono ?_
  rintro e w3 ⟨vr, rfl, ho, hb⟩
  have B3 := Lib.hid (joins B2.out hb)
  have OR := Lib.hid (ho.mono B2.out.size)
  clear hb ho
  go_wp2_with fail
  go_returns
  exact ⟨_, rfl, OR.out, B3.out⟩
end Go.Proofs.Ytbppbkoppbnodaa
