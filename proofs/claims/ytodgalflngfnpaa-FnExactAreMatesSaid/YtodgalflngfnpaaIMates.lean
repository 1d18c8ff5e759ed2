/- The program's areMates and AreMates. -/
import Derived.Test.YtodgalflngfnpaaIGo
namespace Go.Proofs.Ytodgalflngfnpaa
set_option maxRecDepth 100000
open Go.RowKit

theorem maT_small (f : Int → Int) (hf : ∀ x, -1 ≤ f x ∧ f x ≤ 1) (a b c d : List Int) (u : Int) (hc : c.length ≤ 32) (hd : d.length ≤ 32) : -64 ≤ maT f a b c d u ∧ maT f a b c d u ≤ 64 := by
  have := apS_small f hf a c u hc
  have := apS_small f hf b d u hd
  unfold maT; omega
/-- One shift's test, as the walk meets it: both correlations, their sum, whether it is zero. -/
def MateAt (L : Nat) (CA CB DA DB : Array Value) (Z : Bool) (u : Int) : Prop :=
  ∃ x1 y1 x2 y2 x3 y3 : Nat, (∀ w, Calls Try.prog 87 #[.agg CA, .agg DA, .int .i64 u] w (Ret w (.complex .f32 x1 y1))) ∧
    (∀ w, Calls Try.prog 87 #[.agg CB, .agg DB, .int .i64 u] w (Ret w (.complex .f32 x2 y2))) ∧
    (∀ w t, (binOp .add t (.complex .f32 x1 y1) (.complex .f32 x2 y2)).run Try.prog w = .ok (.complex .f32 x3 y3) w) ∧
    (∀ w t, (binOp .neq t (.complex .f32 x3 y3) (.complex .f32 0 0)).run Try.prog w = .ok (.bool (!Z)) w) ∧ L ≤ 32
theorem mateAt (a b c d : List Int) (u : Int) (ha : isSeq a = true) (hb : isSeq b = true) (hc : isSeq c = true) (hd : isSeq d = true) (hab : a.length = b.length) (hcd : c.length = d.length) (hac : a.length = c.length) (h1 : -(a.length : Int) ≤ u) (h2 : u ≤ a.length) :
    MateAt a.length (phC a) (phC b) (phC c) (phC d) (maZ a b c d u) u := by
  have hlc := isSeq_len hc
  have hld := isSeq_len hd
  refine ⟨_, _, _, _, _, _, fun w => ?_, fun w => ?_, fun w t => run_addw w t _ _ _ _ (apS_small vx vx_one a c u hlc) (apS_small vy vy_one a c u hlc) (apS_small vx vx_one b d u hld) (apS_small vy vy_one b d u hld), fun w t => run_neqz w t _ _ (maT_small vx vx_one a b c d u hlc hld) (maT_small vy vy_one a b c d u hlc hld), isSeq_len ha⟩
  · rw [phC_seq ha, phC_seq hc]; exact aperiodic_any a c u ha hc hac h1 h2 w
  · rw [phC_seq hb, phC_seq hd]; exact aperiodic_any b d u hb hd (by omega) (by omega) (by omega) w

set_option maxHeartbeats 4000000 in
theorem areMates_any (a b c d : List Int) (ha : isSeq a = true) (hb : isSeq b = true) (hc : isSeq c = true) (hd : isSeq d = true) (hab : a.length = b.length) (hcd : c.length = d.length) (hac : a.length = c.length) (hn : 1 ≤ a.length) (w : World) :
    Calls Try.prog 75 #[.agg (prC a b), .agg (prC c d)] w (Ret w (.bool (maB a b c d))) := by
  have h32 := isSeq_len ha
  have HG1 := isGolayP_any a b ha hb hab
  have HG2 := isGolayP_any c d hc hd hcd
  rw [decide_eq_true hn, Bool.true_and] at HG1
  rw [decide_eq_true (show 1 ≤ c.length by omega), Bool.true_and] at HG2
  have HLP := Lib.hid (prLength_any a b ha)
  have HM := Lib.hid (fun (u : Int) h1 h2 => mateAt a b c d u ha hb hc hd hab hcd hac h1 h2)
  have IC := Lib.hid (infoPrC a b)
  have ID := Lib.hid (infoPrC c d)
  have IA := Lib.hid (infoPhC a)
  have IB := Lib.hid (infoPhC b)
  have IE := Lib.hid (infoPhC c)
  have IF := Lib.hid (infoPhC d)
  have PA := Lib.hid (prC_fst a b)
  have PB := Lib.hid (prC_snd a b)
  have PE := Lib.hid (prC_fst c d)
  have PF := Lib.hid (prC_snd c d)
  have HF := Lib.hid (maL_false a b c d)
  have HBD := Lib.hid (show maL a b c d = maN a b c d (1 - (a.length : Int)) (2 * a.length - 1) from rfl)
  unfold maB
  obtain ⟨C, hC⟩ : ∃ Z, Z = prC a b := ⟨_, rfl⟩
  obtain ⟨D, hD⟩ : ∃ Z, Z = prC c d := ⟨_, rfl⟩
  obtain ⟨CA, hCA⟩ : ∃ Z, Z = phC a := ⟨_, rfl⟩
  obtain ⟨CB, hCB⟩ : ∃ Z, Z = phC b := ⟨_, rfl⟩
  obtain ⟨DA, hDA⟩ : ∃ Z, Z = phC c := ⟨_, rfl⟩
  obtain ⟨DB, hDB⟩ : ∃ Z, Z = phC d := ⟨_, rfl⟩
  rw [← hC] at HG1 HLP IC PA PB ⊢
  rw [← hD] at HG2 ID PE PF ⊢
  rw [← hCA] at HM IA PA
  rw [← hCB] at HM IB PB
  rw [← hDA] at HM IE PE
  rw [← hDB] at HM IF PF
  obtain ⟨L, hL⟩ : ∃ n, n = a.length := ⟨_, rfl⟩
  rw [← hL] at HLP HM HF HBD h32 hn
  clear hC hD hCA hCB hDA hDB hL ha hb hc hd hab hcd hac
  cases hg1 : goB a b with
  | false =>
    rw [hg1] at HG1
    have HG1' := Lib.hid HG1
    clear HG1 hg1 HG2 HM HF HBD
    have B0 := Lib.hid (Below.refl w.heap.size w)
    go_enter Try.func75, Try.ntmps75
    go_wp2_with (first
      | ((with_reducible refine at_op (Op.box 50 (.tmp 0)) ?_); refine wpList_box_row rfl 50 (.tmp 0) rfl C rfl ?_; intro w1 hr hb hz; have R1_p := Lib.hid hr; have B1 := Lib.hid (joins B0.out hb); have L1_p := Lib.hid (show w.heap.size ≤ w.heap.size from B0.out.size); clear hr hb hz)
      | ((with_reducible refine at_op (Op.box 50 (.tmp 1)) ?_); refine wpList_box_row rfl 50 (.tmp 1) rfl D rfl ?_; intro w2 hr hb hz; have N2_p_q := Lib.hid (Nat.ne_of_lt (row_lt R1_p.out)); have N2_q_p := Lib.hid (Ne.symm N2_p_q.out); have R2_p := Lib.hid (rowB R1_p.out hb); have R2_q := Lib.hid hr; have B2 := Lib.hid (joins B1.out hb); have L2_q := Lib.hid (show w.heap.size ≤ w1.heap.size from B1.out.size); clear hr hb hz)
      | ((with_reducible refine at_op (d := some 6) (Op.load 50 (.tmp 2)) ?_); refine wpList_load_part rfl 50 (.tmp 2) rfl (w.heap.size) 0 rfl C C 50 (0, 0) _ R2_p.out (Part.self _) Try.underlying50 rfl IC.out ?_))
    refine (HG1'.out _).mono ?_
    rintro e w3 ⟨rfl, hb⟩
    have R3_p := Lib.hid (rowB R2_p.out hb)
    have R3_q := Lib.hid (rowB R2_q.out hb)
    have B3 := Lib.hid (joins B2.out hb)
    clear hb
    go_wp2_with fail
    go_returns
    exact ⟨rfl, B3.out⟩
  | true =>
    rw [hg1] at HG1
    have HG1' := Lib.hid HG1
    clear HG1 hg1
    cases hg2 : goB c d with
    | false =>
      rw [hg2] at HG2
      have HG2' := Lib.hid HG2
      clear HG2 hg2 HM HF HBD
      have B0 := Lib.hid (Below.refl w.heap.size w)
      go_enter Try.func75, Try.ntmps75
      go_wp2_with (first
        | ((with_reducible refine at_op (Op.box 50 (.tmp 0)) ?_); refine wpList_box_row rfl 50 (.tmp 0) rfl C rfl ?_; intro w1 hr hb hz; have R1_p := Lib.hid hr; have B1 := Lib.hid (joins B0.out hb); have L1_p := Lib.hid (show w.heap.size ≤ w.heap.size from B0.out.size); clear hr hb hz)
        | ((with_reducible refine at_op (Op.box 50 (.tmp 1)) ?_); refine wpList_box_row rfl 50 (.tmp 1) rfl D rfl ?_; intro w2 hr hb hz; have N2_p_q := Lib.hid (Nat.ne_of_lt (row_lt R1_p.out)); have N2_q_p := Lib.hid (Ne.symm N2_p_q.out); have R2_p := Lib.hid (rowB R1_p.out hb); have R2_q := Lib.hid hr; have B2 := Lib.hid (joins B1.out hb); have L2_q := Lib.hid (show w.heap.size ≤ w1.heap.size from B1.out.size); clear hr hb hz)
        | ((with_reducible refine at_op (d := some 6) (Op.load 50 (.tmp 2)) ?_); refine wpList_load_part rfl 50 (.tmp 2) rfl (w.heap.size) 0 rfl C C 50 (0, 0) _ R2_p.out (Part.self _) Try.underlying50 rfl IC.out ?_))
      refine (HG1'.out _).mono ?_
      rintro e w3 ⟨rfl, hb⟩
      have R3_p := Lib.hid (rowB R2_p.out hb)
      have R3_q := Lib.hid (rowB R2_q.out hb)
      have B3 := Lib.hid (joins B2.out hb)
      clear hb
      go_wp2_with ((with_reducible refine at_op (d := some 10) (Op.load 50 (.tmp 3)) ?_); refine wpList_load_part_w (by rfl) 50 (.tmp 3) rfl (w1.heap.size) 0 rfl D D 50 (0, 0) _ R3_q.out (Part.self _) Try.underlying50 rfl ID.out ?_)
      refine (HG2'.out _).mono ?_
      rintro e w4 ⟨rfl, hb⟩
      have R4_p := Lib.hid (rowB R3_p.out hb)
      have R4_q := Lib.hid (rowB R3_q.out hb)
      have B4 := Lib.hid (joins B3.out hb)
      clear hb
      go_wp2_with fail
      go_returns
      exact ⟨rfl, B4.out⟩
    | true =>
      rw [hg2] at HG2
      have HG2' := Lib.hid HG2
      clear HG2 hg2
      have B0 := Lib.hid (Below.refl w.heap.size w)
      go_enter Try.func75, Try.ntmps75
      go_wp2_with (first
        | ((with_reducible refine at_op (Op.box 50 (.tmp 0)) ?_); refine wpList_box_row rfl 50 (.tmp 0) rfl C rfl ?_; intro w1 hr hb hz; have R1_p := Lib.hid hr; have B1 := Lib.hid (joins B0.out hb); have L1_p := Lib.hid (show w.heap.size ≤ w.heap.size from B0.out.size); clear hr hb hz)
        | ((with_reducible refine at_op (Op.box 50 (.tmp 1)) ?_); refine wpList_box_row rfl 50 (.tmp 1) rfl D rfl ?_; intro w2 hr hb hz; have N2_p_q := Lib.hid (Nat.ne_of_lt (row_lt R1_p.out)); have N2_q_p := Lib.hid (Ne.symm N2_p_q.out); have R2_p := Lib.hid (rowB R1_p.out hb); have R2_q := Lib.hid hr; have B2 := Lib.hid (joins B1.out hb); have L2_q := Lib.hid (show w.heap.size ≤ w1.heap.size from B1.out.size); clear hr hb hz)
        | ((with_reducible refine at_op (d := some 6) (Op.load 50 (.tmp 2)) ?_); refine wpList_load_part rfl 50 (.tmp 2) rfl (w.heap.size) 0 rfl C C 50 (0, 0) _ R2_p.out (Part.self _) Try.underlying50 rfl IC.out ?_))
      refine (HG1'.out _).mono ?_
      rintro e w3 ⟨rfl, hb⟩
      have R3_p := Lib.hid (rowB R2_p.out hb)
      have R3_q := Lib.hid (rowB R2_q.out hb)
      have B3 := Lib.hid (joins B2.out hb)
      clear hb
      go_wp2_with ((with_reducible refine at_op (d := some 10) (Op.load 50 (.tmp 3)) ?_); refine wpList_load_part_w (by rfl) 50 (.tmp 3) rfl (w1.heap.size) 0 rfl D D 50 (0, 0) _ R3_q.out (Part.self _) Try.underlying50 rfl ID.out ?_)
      refine (HG2'.out _).mono ?_
      rintro e w4 ⟨rfl, hb⟩
      have R4_p := Lib.hid (rowB R3_p.out hb)
      have R4_q := Lib.hid (rowB R3_q.out hb)
      have B4 := Lib.hid (joins B3.out hb)
      clear hb
      go_wp2_with ((with_reducible refine at_op (d := some 14) (Op.load 50 (.tmp 2)) ?_); refine wpList_load_part rfl 50 (.tmp 2) rfl (w.heap.size) 0 rfl C C 50 (0, 0) _ R4_p.out (Part.self _) Try.underlying50 rfl IC.out ?_)
      refine (HLP.out _).mono ?_
      rintro e w5 ⟨rfl, hb⟩
      have R5_p := Lib.hid (rowB R4_p.out hb)
      have R5_q := Lib.hid (rowB R4_q.out hb)
      have B5 := Lib.hid (joins B4.out hb)
      clear hb
      go_wp2_with fail
      go_loopw [5] (fun u wr => ∃ k : Nat, u = .int .i64 (1 - (L : Int) + (k : Int)) ∧ k ≤ 2 * L - 1 ∧ maN a b c d (1 - (L : Int)) k = true ∧ wr.heap[w.heap.size]? = some (.cells C 50 (0, 0)) ∧ wr.heap[w1.heap.size]? = some (.cells D 50 (0, 0)) ∧ Below w.heap.size w wr) (fun u _ => ((L : Int) - intOf u).toNat)
      case atStart => exact ⟨0, by go_num, Nat.zero_le _, rfl, R5_p.out, R5_q.out, B5.out⟩
      case round =>
        obtain ⟨k, rfl, hk, hN, hrow, hrow2, hbel⟩ := hrel
        have RR := Lib.hid hrow
        have RQ := Lib.hid hrow2
        have BR := Lib.hid hbel
        have HN := Lib.hid hN
        clear hrow hrow2 hbel hN
        by_cases hlt : k < 2 * L - 1
        · have h0 : (0 : Int) ≤ (k : Int) := by omega
          have h1 : 1 - (L : Int) + (k : Int) < (L : Int) := by omega
          have hm := HM.out (1 - (L : Int) + (k : Int)) (by omega) (by omega)
          have HFk := Lib.hid (HF.out k hlt)
          have HSN := Lib.hid (show maN a b c d (1 - (L : Int)) (k + 1) = (maN a b c d (1 - (L : Int)) k && maZ a b c d (1 - (L : Int) + (k : Int))) from rfl)
          obtain ⟨x1, y1, x2, y2, x3, y3, ha1, hb1, hadd, hneq, -⟩ := hm
          have HA1 := Lib.hid ha1
          have HB1 := Lib.hid hb1
          clear ha1 hb1
          cases hz : maZ a b c d (1 - (L : Int) + (k : Int)) with
          | true =>
            rw [hz] at hneq HSN
            clear hz HFk
            go_wp2_with ((with_reducible refine at_op (Op.load 50 (.tmp 2)) ?_); refine wpList_load_part rfl 50 (.tmp 2) rfl (w.heap.size) 0 rfl C C 50 (0, 0) _ RR.out (Part.self _) Try.underlying50 rfl IC.out ?_)
            refine (HLP.out _).mono ?_
            rintro e w21 ⟨rfl, hb⟩
            have R21_p := Lib.hid (rowB RR.out hb)
            have R21_q := Lib.hid (rowB RQ.out hb)
            have B21 := Lib.hid (joins BR.out hb)
            clear hb
            go_wp2_with fail
            go_wp2_with fail
            refine wp_region_held_drew (S := (fun w' => World.grownBy w21 w' none)) (by kernel_rfl) (grownDrew (World.grownBy.refl _ _)) ?_
            obtain ⟨w22, hdw⟩ : ∃ w', w' = w21.drew := ⟨_, rfl⟩
            rw [← hdw]
            have hb : Below w21.heap.size w21 w22 := by rw [hdw]; exact belowN (Below.refl _ _) 1
            have R22_p := Lib.hid (rowB R21_p.out hb)
            have R22_q := Lib.hid (rowB R21_q.out hb)
            have B22 := Lib.hid (joins B21.out hb)
            clear hdw hb
            intro hHeld
            refine' wpAnyH_take (i := 0) (v := _) rfl (by kernel_rfl) (by kernel_rfl) (by kernel_rfl) (fun _ _ _ h => h) (Or.inl ⟨by rfl, ?hy1⟩) (by assumption) ?rest1
            case hy1 =>
              intro w h
              (try clear h)
              go_simp
              (try with_reducible rfl)
            (try simp only [Act.put, List.getElem_toArray, List.getElem_cons_zero, List.setIfInBounds_toArray, List.set_cons_zero, List.set_cons_succ])
            refine' wpAnyH_take (i := 1) (v := _) rfl (by kernel_rfl) (by kernel_rfl) (by kernel_rfl) (fun _ _ _ h => h) (yieldsPart (by rfl) 48 (.tmp 23) rfl (w.heap.size) 0 rfl C CA 50 (0, 0) _ (fun w h => (rowG R21_p.out h (by simp))) PA.out Try.underlying48 rfl IA.out) (by assumption) ?rest2
            (try simp only [Act.put, List.getElem_toArray, List.getElem_cons_zero, List.getElem_cons_succ, List.setIfInBounds_toArray, List.set_cons_zero, List.set_cons_succ])
            refine' wpAnyH_take (i := 2) (v := _) rfl (by kernel_rfl) (by kernel_rfl) (by kernel_rfl) (fun _ _ _ h => h) (Or.inl ⟨by rfl, ?hy3⟩) (by assumption) ?rest3
            case hy3 =>
              intro w h
              (try clear h)
              go_simp
              (try with_reducible rfl)
            (try simp only [Act.put, List.getElem_toArray, List.getElem_cons_zero, List.getElem_cons_succ, List.setIfInBounds_toArray, List.set_cons_zero, List.set_cons_succ])
            refine' wpAnyH_take (i := 3) (v := _) rfl (by kernel_rfl) (by kernel_rfl) (by kernel_rfl) (fun _ _ _ h => h) (yieldsPart (by rfl) 48 (.tmp 25) rfl (w1.heap.size) 0 rfl D DA 50 (0, 0) _ (fun w h => (rowG R21_q.out h (by simp))) PE.out Try.underlying48 rfl IE.out) (by assumption) ?rest4
            (try simp only [Act.put, List.getElem_toArray, List.getElem_cons_zero, List.getElem_cons_succ, List.setIfInBounds_toArray, List.set_cons_zero, List.set_cons_succ])
            refine' wpAnyH_take (i := 4) (v := _) rfl (by kernel_rfl) (by kernel_rfl) (by kernel_rfl) (fun _ _ _ h => h) (Or.inl ⟨by rfl, ?hy5⟩) (by assumption) ?rest5
            case hy5 =>
              intro w h
              (try clear h)
              go_simp
              (try with_reducible rfl)
            (try simp only [Act.put, List.getElem_toArray, List.getElem_cons_zero, List.getElem_cons_succ, List.setIfInBounds_toArray, List.set_cons_zero, List.set_cons_succ])
            refine' wpAnyH_take (i := 6) (v := _) rfl (by kernel_rfl) (by kernel_rfl) (by kernel_rfl) (fun _ _ _ h => h) (Or.inl ⟨by rfl, ?hy6⟩) (by assumption) ?rest6
            case hy6 =>
              intro w h
              (try clear h)
              go_simp
              (try with_reducible rfl)
            (try simp only [Act.put, List.getElem_toArray, List.getElem_cons_zero, List.getElem_cons_succ, List.setIfInBounds_toArray, List.set_cons_zero, List.set_cons_succ])
            refine' wpAnyH_take (i := 7) (v := _) rfl (by kernel_rfl) (by kernel_rfl) (by kernel_rfl) (fun _ _ _ h => h) (yieldsPart (by rfl) 48 (.tmp 29) rfl (w.heap.size) 33 rfl C CB 50 (0, 0) _ (fun w h => (rowG R21_p.out h (by simp))) PB.out Try.underlying48 rfl IB.out) (by assumption) ?rest7
            (try simp only [Act.put, List.getElem_toArray, List.getElem_cons_zero, List.getElem_cons_succ, List.setIfInBounds_toArray, List.set_cons_zero, List.set_cons_succ])
            refine' wpAnyH_take (i := 8) (v := _) rfl (by kernel_rfl) (by kernel_rfl) (by kernel_rfl) (fun _ _ _ h => h) (Or.inl ⟨by rfl, ?hy8⟩) (by assumption) ?rest8
            case hy8 =>
              intro w h
              (try clear h)
              go_simp
              (try with_reducible rfl)
            (try simp only [Act.put, List.getElem_toArray, List.getElem_cons_zero, List.getElem_cons_succ, List.setIfInBounds_toArray, List.set_cons_zero, List.set_cons_succ])
            refine' wpAnyH_take (i := 9) (v := _) rfl (by kernel_rfl) (by kernel_rfl) (by kernel_rfl) (fun _ _ _ h => h) (yieldsPart (by rfl) 48 (.tmp 31) rfl (w1.heap.size) 33 rfl D DB 50 (0, 0) _ (fun w h => (rowG R21_q.out h (by simp))) PF.out Try.underlying48 rfl IF.out) (by assumption) ?rest9
            (try simp only [Act.put, List.getElem_toArray, List.getElem_cons_zero, List.getElem_cons_succ, List.setIfInBounds_toArray, List.set_cons_zero, List.set_cons_succ])
            refine' wpAnyH_take (i := 10) (v := _) rfl (by kernel_rfl) (by kernel_rfl) (by kernel_rfl) (fun _ _ _ h => h) (Or.inl ⟨by rfl, ?hy10⟩) (by assumption) ?rest10
            case hy10 =>
              intro w h
              (try clear h)
              go_simp
              (try with_reducible rfl)
            (try simp only [Act.put, List.getElem_toArray, List.getElem_cons_zero, List.getElem_cons_succ, List.setIfInBounds_toArray, List.set_cons_zero, List.set_cons_succ])
            refine wpAnyH_ready (rs := [5]) (by kernel_rfl) (by simp) ?_
            refine AllReadyH.cons rfl (fun K hK => ?_) AllReadyH.nil
            go_simp
            refine (HA1.out _).mono ?_
            rintro e w23 ⟨rfl, hb⟩
            have R23_p := Lib.hid (rowB R22_p.out hb)
            have R23_q := Lib.hid (rowB R22_q.out hb)
            have B23 := Lib.hid (joins B22.out hb)
            have hHeld := grownB hHeld hb
            clear hb
            refine hK.out _ _ hHeld (fun hHeld => ?_)
            clear hK K
            (try simp only [Act.put, List.getElem_toArray, List.getElem_cons_zero, List.getElem_cons_succ, List.setIfInBounds_toArray, List.set_cons_zero, List.set_cons_succ])
            refine wpAnyH_ready (rs := [11]) (by kernel_rfl) (by simp) ?_
            refine AllReadyH.cons rfl (fun K hK => ?_) AllReadyH.nil
            go_simp
            refine (HB1.out _).mono ?_
            rintro e w24 ⟨rfl, hb⟩
            have R24_p := Lib.hid (rowB R23_p.out hb)
            have R24_q := Lib.hid (rowB R23_q.out hb)
            have B24 := Lib.hid (joins B23.out hb)
            have hHeld := grownB hHeld hb
            clear hb
            refine hK.out _ _ hHeld (fun hHeld => ?_)
            clear hK K
            (try simp only [Act.put, List.getElem_toArray, List.getElem_cons_zero, List.getElem_cons_succ, List.setIfInBounds_toArray, List.set_cons_zero, List.set_cons_succ])
            refine' wpAnyH_take (i := 12) (v := _) rfl (by kernel_rfl) (by kernel_rfl) (by kernel_rfl) (fun _ _ _ h => h) (Or.inl ⟨by rfl, ?hy11⟩) (by assumption) ?rest11
            case hy11 =>
              intro w h
              (try clear h)
              go_simp
              (try with_reducible rfl)
            (try simp only [Act.put, List.getElem_toArray, List.getElem_cons_zero, List.getElem_cons_succ, List.setIfInBounds_toArray, List.set_cons_zero, List.set_cons_succ])
            refine' wpAnyH_take (i := 13) (v := _) rfl (by kernel_rfl) (by kernel_rfl) (by kernel_rfl) (fun _ _ _ h => h) (Or.inl ⟨by rfl, ?hy12⟩) (by assumption) ?rest12
            case hy12 =>
              intro w h
              (try clear h)
              go_simp
              (try with_reducible rfl)
            (try simp only [Act.put, List.getElem_toArray, List.getElem_cons_zero, List.getElem_cons_succ, List.setIfInBounds_toArray, List.set_cons_zero, List.set_cons_succ])
            refine wpAnyH_done (by kernel_rfl) ?_ _
            go_wp2_with fail
            go_roundw
            case rel => exact ⟨k + 1, by go_num, by omega, by rw [HSN.out, HN.out]; rfl, R24_p.out, R24_q.out, B24.out⟩
            case measure => simp [intOf]; omega
          | false =>
            rw [hz] at hneq HFk
            clear hz HSN
            go_wp2_with ((with_reducible refine at_op (Op.load 50 (.tmp 2)) ?_); refine wpList_load_part rfl 50 (.tmp 2) rfl (w.heap.size) 0 rfl C C 50 (0, 0) _ RR.out (Part.self _) Try.underlying50 rfl IC.out ?_)
            refine (HLP.out _).mono ?_
            rintro e w21 ⟨rfl, hb⟩
            have R21_p := Lib.hid (rowB RR.out hb)
            have R21_q := Lib.hid (rowB RQ.out hb)
            have B21 := Lib.hid (joins BR.out hb)
            clear hb
            go_wp2_with fail
            go_wp2_with fail
            refine wp_region_held_drew (S := (fun w' => World.grownBy w21 w' none)) (by kernel_rfl) (grownDrew (World.grownBy.refl _ _)) ?_
            obtain ⟨w22, hdw⟩ : ∃ w', w' = w21.drew := ⟨_, rfl⟩
            rw [← hdw]
            have hb : Below w21.heap.size w21 w22 := by rw [hdw]; exact belowN (Below.refl _ _) 1
            have R22_p := Lib.hid (rowB R21_p.out hb)
            have R22_q := Lib.hid (rowB R21_q.out hb)
            have B22 := Lib.hid (joins B21.out hb)
            clear hdw hb
            intro hHeld
            refine' wpAnyH_take (i := 0) (v := _) rfl (by kernel_rfl) (by kernel_rfl) (by kernel_rfl) (fun _ _ _ h => h) (Or.inl ⟨by rfl, ?hy13⟩) (by assumption) ?rest13
            case hy13 =>
              intro w h
              (try clear h)
              go_simp
              (try with_reducible rfl)
            (try simp only [Act.put, List.getElem_toArray, List.getElem_cons_zero, List.setIfInBounds_toArray, List.set_cons_zero, List.set_cons_succ])
            refine' wpAnyH_take (i := 1) (v := _) rfl (by kernel_rfl) (by kernel_rfl) (by kernel_rfl) (fun _ _ _ h => h) (yieldsPart (by rfl) 48 (.tmp 23) rfl (w.heap.size) 0 rfl C CA 50 (0, 0) _ (fun w h => (rowG R21_p.out h (by simp))) PA.out Try.underlying48 rfl IA.out) (by assumption) ?rest14
            (try simp only [Act.put, List.getElem_toArray, List.getElem_cons_zero, List.getElem_cons_succ, List.setIfInBounds_toArray, List.set_cons_zero, List.set_cons_succ])
            refine' wpAnyH_take (i := 2) (v := _) rfl (by kernel_rfl) (by kernel_rfl) (by kernel_rfl) (fun _ _ _ h => h) (Or.inl ⟨by rfl, ?hy15⟩) (by assumption) ?rest15
            case hy15 =>
              intro w h
              (try clear h)
              go_simp
              (try with_reducible rfl)
            (try simp only [Act.put, List.getElem_toArray, List.getElem_cons_zero, List.getElem_cons_succ, List.setIfInBounds_toArray, List.set_cons_zero, List.set_cons_succ])
            refine' wpAnyH_take (i := 3) (v := _) rfl (by kernel_rfl) (by kernel_rfl) (by kernel_rfl) (fun _ _ _ h => h) (yieldsPart (by rfl) 48 (.tmp 25) rfl (w1.heap.size) 0 rfl D DA 50 (0, 0) _ (fun w h => (rowG R21_q.out h (by simp))) PE.out Try.underlying48 rfl IE.out) (by assumption) ?rest16
            (try simp only [Act.put, List.getElem_toArray, List.getElem_cons_zero, List.getElem_cons_succ, List.setIfInBounds_toArray, List.set_cons_zero, List.set_cons_succ])
            refine' wpAnyH_take (i := 4) (v := _) rfl (by kernel_rfl) (by kernel_rfl) (by kernel_rfl) (fun _ _ _ h => h) (Or.inl ⟨by rfl, ?hy17⟩) (by assumption) ?rest17
            case hy17 =>
              intro w h
              (try clear h)
              go_simp
              (try with_reducible rfl)
            (try simp only [Act.put, List.getElem_toArray, List.getElem_cons_zero, List.getElem_cons_succ, List.setIfInBounds_toArray, List.set_cons_zero, List.set_cons_succ])
            refine' wpAnyH_take (i := 6) (v := _) rfl (by kernel_rfl) (by kernel_rfl) (by kernel_rfl) (fun _ _ _ h => h) (Or.inl ⟨by rfl, ?hy18⟩) (by assumption) ?rest18
            case hy18 =>
              intro w h
              (try clear h)
              go_simp
              (try with_reducible rfl)
            (try simp only [Act.put, List.getElem_toArray, List.getElem_cons_zero, List.getElem_cons_succ, List.setIfInBounds_toArray, List.set_cons_zero, List.set_cons_succ])
            refine' wpAnyH_take (i := 7) (v := _) rfl (by kernel_rfl) (by kernel_rfl) (by kernel_rfl) (fun _ _ _ h => h) (yieldsPart (by rfl) 48 (.tmp 29) rfl (w.heap.size) 33 rfl C CB 50 (0, 0) _ (fun w h => (rowG R21_p.out h (by simp))) PB.out Try.underlying48 rfl IB.out) (by assumption) ?rest19
            (try simp only [Act.put, List.getElem_toArray, List.getElem_cons_zero, List.getElem_cons_succ, List.setIfInBounds_toArray, List.set_cons_zero, List.set_cons_succ])
            refine' wpAnyH_take (i := 8) (v := _) rfl (by kernel_rfl) (by kernel_rfl) (by kernel_rfl) (fun _ _ _ h => h) (Or.inl ⟨by rfl, ?hy20⟩) (by assumption) ?rest20
            case hy20 =>
              intro w h
              (try clear h)
              go_simp
              (try with_reducible rfl)
            (try simp only [Act.put, List.getElem_toArray, List.getElem_cons_zero, List.getElem_cons_succ, List.setIfInBounds_toArray, List.set_cons_zero, List.set_cons_succ])
            refine' wpAnyH_take (i := 9) (v := _) rfl (by kernel_rfl) (by kernel_rfl) (by kernel_rfl) (fun _ _ _ h => h) (yieldsPart (by rfl) 48 (.tmp 31) rfl (w1.heap.size) 33 rfl D DB 50 (0, 0) _ (fun w h => (rowG R21_q.out h (by simp))) PF.out Try.underlying48 rfl IF.out) (by assumption) ?rest21
            (try simp only [Act.put, List.getElem_toArray, List.getElem_cons_zero, List.getElem_cons_succ, List.setIfInBounds_toArray, List.set_cons_zero, List.set_cons_succ])
            refine' wpAnyH_take (i := 10) (v := _) rfl (by kernel_rfl) (by kernel_rfl) (by kernel_rfl) (fun _ _ _ h => h) (Or.inl ⟨by rfl, ?hy22⟩) (by assumption) ?rest22
            case hy22 =>
              intro w h
              (try clear h)
              go_simp
              (try with_reducible rfl)
            (try simp only [Act.put, List.getElem_toArray, List.getElem_cons_zero, List.getElem_cons_succ, List.setIfInBounds_toArray, List.set_cons_zero, List.set_cons_succ])
            refine wpAnyH_ready (rs := [5]) (by kernel_rfl) (by simp) ?_
            refine AllReadyH.cons rfl (fun K hK => ?_) AllReadyH.nil
            go_simp
            refine (HA1.out _).mono ?_
            rintro e w23 ⟨rfl, hb⟩
            have R23_p := Lib.hid (rowB R22_p.out hb)
            have R23_q := Lib.hid (rowB R22_q.out hb)
            have B23 := Lib.hid (joins B22.out hb)
            have hHeld := grownB hHeld hb
            clear hb
            refine hK.out _ _ hHeld (fun hHeld => ?_)
            clear hK K
            (try simp only [Act.put, List.getElem_toArray, List.getElem_cons_zero, List.getElem_cons_succ, List.setIfInBounds_toArray, List.set_cons_zero, List.set_cons_succ])
            refine wpAnyH_ready (rs := [11]) (by kernel_rfl) (by simp) ?_
            refine AllReadyH.cons rfl (fun K hK => ?_) AllReadyH.nil
            go_simp
            refine (HB1.out _).mono ?_
            rintro e w24 ⟨rfl, hb⟩
            have R24_p := Lib.hid (rowB R23_p.out hb)
            have R24_q := Lib.hid (rowB R23_q.out hb)
            have B24 := Lib.hid (joins B23.out hb)
            have hHeld := grownB hHeld hb
            clear hb
            refine hK.out _ _ hHeld (fun hHeld => ?_)
            clear hK K
            (try simp only [Act.put, List.getElem_toArray, List.getElem_cons_zero, List.getElem_cons_succ, List.setIfInBounds_toArray, List.set_cons_zero, List.set_cons_succ])
            refine' wpAnyH_take (i := 12) (v := _) rfl (by kernel_rfl) (by kernel_rfl) (by kernel_rfl) (fun _ _ _ h => h) (Or.inl ⟨by rfl, ?hy23⟩) (by assumption) ?rest23
            case hy23 =>
              intro w h
              (try clear h)
              go_simp
              (try with_reducible rfl)
            (try simp only [Act.put, List.getElem_toArray, List.getElem_cons_zero, List.getElem_cons_succ, List.setIfInBounds_toArray, List.set_cons_zero, List.set_cons_succ])
            refine' wpAnyH_take (i := 13) (v := _) rfl (by kernel_rfl) (by kernel_rfl) (by kernel_rfl) (fun _ _ _ h => h) (Or.inl ⟨by rfl, ?hy24⟩) (by assumption) ?rest24
            case hy24 =>
              intro w h
              (try clear h)
              go_simp
              (try with_reducible rfl)
            (try simp only [Act.put, List.getElem_toArray, List.getElem_cons_zero, List.getElem_cons_succ, List.setIfInBounds_toArray, List.set_cons_zero, List.set_cons_succ])
            refine wpAnyH_done (by kernel_rfl) ?_ _
            go_wp2_with fail
            go_returns
            exact ⟨ret_bool (by rw [HFk.out (by trivial)]; rfl), B24.out⟩
        · have h1 : ¬ (1 - (L : Int) + (k : Int) < (L : Int)) := by omega
          have hr : (true && true && maL a b c d) = true := by rw [HBD.out, show 2 * L - 1 = k by omega, HN.out]; rfl
          have HR := Lib.hid hr
          clear hr
          go_wp2_with ((with_reducible refine at_op (Op.load 50 (.tmp 2)) ?_); refine wpList_load_part rfl 50 (.tmp 2) rfl (w.heap.size) 0 rfl C C 50 (0, 0) _ RR.out (Part.self _) Try.underlying50 rfl IC.out ?_)
          refine (HLP.out _).mono ?_
          rintro e w21 ⟨rfl, hb⟩
          have R21_p := Lib.hid (rowB RR.out hb)
          have R21_q := Lib.hid (rowB RQ.out hb)
          have B21 := Lib.hid (joins BR.out hb)
          clear hb
          go_wp2_with fail
          go_returns
          exact ⟨ret_bool HR.out.symm, B21.out⟩

set_option maxHeartbeats 4000000 in
theorem iareMates (va vb vc vd : Value) (a b c d : List Int) (w : World) (hva : IS w va a) (hvb : IS w vb b) (hvc : IS w vc c) (hvd : IS w vd d) (hla : a.length ≤ 1048576) (hlb : b.length ≤ 1048576) (hlc : c.length ≤ 1048576) (hld : d.length ≤ 1048576) :
    Calls Try.prog 38 #[va, vb, vc, vd] w (Ret w (.tuple #[.bool (foOk a b c d && maB a b c d), .bool (foOk a b c d)])) := by
  obtain ⟨hp, hq, hpq⟩ := pr_facts a b
  obtain ⟨hr, hs, hrs⟩ := pr_facts c d
  have hfo : (decide (1 ≤ (pL a b).length) && decide ((pL a b).length = (pL c d).length)) = foOk a b c d := by
    unfold foOk
    cases h1 : goOk a b with
    | false =>
      have := pr_ok a b
      rw [h1] at this
      rw [this]; rfl
    | true =>
      have e1 := pr_ok a b
      rw [h1] at e1
      rw [e1, (pr_yes h1).1]
      cases h2 : goOk c d with
      | true => rw [(pr_yes h2).1]; rfl
      | false =>
        have e2 := pr_ok c d
        rw [h2] at e2
        have h3 := of_decide_eq_false e2
        have h4 := of_decide_eq_true e1
        rw [(pr_yes h1).1] at h4
        rw [decide_eq_false (by omega)]; rfl
  have HPF := Lib.hid (pairFrom_any va vb a b w hva hvb hla hlb)
  have HPG := Lib.hid (fun w' (h : Below w.heap.size w w') => pairFrom_any vc vd c d w' (hvc.below h) (hvd.below h) hlc hld)
  have HAL := areAlike_any (pL a b) (pR a b) (pL c d) (pR c d) hp hr
  rw [hfo] at HAL
  have HAM : foOk a b c d = true → ∀ w, Calls Try.prog 75 #[.agg (prC (pL a b) (pR a b)), .agg (prC (pL c d) (pR c d))] w (Ret w (.bool (maB a b c d))) := fun h w => by
    obtain ⟨g1, g2, g3⟩ := foOk_parts h
    rw [(pr_yes g1).1, (pr_yes g1).2, (pr_yes g2).1, (pr_yes g2).2]
    obtain ⟨ha, hb, hab, hn⟩ := goOk_parts g1
    obtain ⟨hc, hd, hcd, -⟩ := goOk_parts g2
    exact areMates_any a b c d ha hb hc hd hab hcd g3 hn w
  have IC := Lib.hid (infoPrC (pL a b) (pR a b))
  have SC := Lib.hid (prC_size (pL a b) (pR a b))
  have OC := Lib.hid (prC_one (pL a b) (pR a b))
  have ID := Lib.hid (infoPrC (pL c d) (pR c d))
  have SD := Lib.hid (prC_size (pL c d) (pR c d))
  have OD := Lib.hid (prC_one (pL c d) (pR c d))
  have SZ := Lib.hid (prC_size [] [])
  have ZZ := Lib.hid zeroPr
  obtain ⟨Z, hZ⟩ : ∃ Z, Z = prC [] [] := ⟨_, rfl⟩
  obtain ⟨C, hC⟩ : ∃ Z, Z = prC (pL a b) (pR a b) := ⟨_, rfl⟩
  obtain ⟨D, hD⟩ : ∃ Z, Z = prC (pL c d) (pR c d) := ⟨_, rfl⟩
  rw [← hZ] at SZ ZZ
  rw [← hC] at HPF HAL HAM IC SC OC
  rw [← hD] at HPG HAL HAM ID SD OD
  obtain ⟨f, hf⟩ : ∃ r, r = foOk a b c d := ⟨_, rfl⟩
  obtain ⟨m, hm⟩ : ∃ r, r = maB a b c d := ⟨_, rfl⟩
  rw [← hf] at HAL HAM ⊢
  rw [← hm] at HAM ⊢
  have HAL' := Lib.hid HAL
  have HAM' := Lib.hid HAM
  clear HAL HAM hZ hC hD hf hm hp hq hpq hr hs hrs hfo hva hvb hvc hvd
  cases f with
  | true =>
    have B0 := Lib.hid (Below.refl w.heap.size w)
    go_enter Try.func38, Try.ntmps38
    go_wp2_with fail
    refine (HPF.out).mono ?_
    rintro e w1 ⟨rfl, hb⟩
    have B1 := Lib.hid (joins B0.out hb)
    clear hb
    go_wp2_with fail
    refine (HPG.out _ B1.out).mono ?_
    rintro e w2 ⟨rfl, hb⟩
    have B2 := Lib.hid (joins B1.out hb)
    clear hb
    go_wp2_with (first
      | ((with_reducible refine at_op (d := some 10) (Op.alloc 50) ?_); refine wpList_alloc_row rfl 50 rfl Z (fun w => ZZ.out w) ?_; intro w3 hr hb hz; have R3_p := Lib.hid hr; have B3 := Lib.hid (joins B2.out hb); have L3_p := Lib.hid (show w.heap.size ≤ w2.heap.size from B2.out.size); clear hr hb hz)
      | ((with_reducible refine at_op (d := some 11) (Op.alloc 50) ?_); refine wpList_alloc_row rfl 50 rfl Z (fun w => ZZ.out w) ?_; intro w4 hr hb hz; have N4_p_q := Lib.hid (Nat.ne_of_lt (row_lt R3_p.out)); have N4_q_p := Lib.hid (Ne.symm N4_p_q.out); have R4_p := Lib.hid (rowB R3_p.out hb); have R4_q := Lib.hid hr; have B4 := Lib.hid (joins B3.out hb); have L4_q := Lib.hid (show w.heap.size ≤ w3.heap.size from B3.out.size); clear hr hb hz)
      | ((with_reducible refine at_op (Op.store 50 (.tmp 10) (.tmp 14)) ?_); refine wpList_put_row rfl 50 (.tmp 10) (.tmp 14) rfl (w2.heap.size) C rfl rfl 50 Z R4_p.out 66 infoPr SC.out SZ.out OC.out w.heap.size w B4.out L3_p.out ?_; intro w5 hr hs hb; have R5_q := Lib.hid (hs.row R4_q.out N4_q_p.out); have R5_p := Lib.hid hr; have B5 := Lib.hid hb; clear hr hs hb)
      | ((with_reducible refine at_op (Op.store 50 (.tmp 11) (.tmp 17)) ?_); refine wpList_put_row rfl 50 (.tmp 11) (.tmp 17) rfl (w3.heap.size) D rfl rfl 50 Z R5_q.out 66 infoPr SD.out SZ.out OD.out w.heap.size w B5.out L4_q.out ?_; intro w6 hr hs hb; have R6_p := Lib.hid (hs.row R5_p.out N4_p_q.out); have R6_q := Lib.hid hr; have B6 := Lib.hid hb; clear hr hs hb)
      | ((with_reducible refine at_op (Op.load 50 (.tmp 10)) ?_); refine wpList_load_part rfl 50 (.tmp 10) rfl (w2.heap.size) 0 rfl C C 50 (0, 0) _ R6_p.out (Part.self _) Try.underlying50 rfl IC.out ?_)
      | ((with_reducible refine at_op (Op.load 50 (.tmp 11)) ?_); refine wpList_load_part rfl 50 (.tmp 11) rfl (w3.heap.size) 0 rfl D D 50 (0, 0) _ R6_q.out (Part.self _) Try.underlying50 rfl ID.out ?_))
    refine (HAL'.out _).mono ?_
    rintro e w7 ⟨rfl, hb⟩
    have R7_p := Lib.hid (rowB R6_p.out hb)
    have R7_q := Lib.hid (rowB R6_q.out hb)
    have B7 := Lib.hid (joins B6.out hb)
    clear hb
    go_wp2_with (first
      | ((with_reducible refine at_op (Op.load 50 (.tmp 10)) ?_); refine wpList_load_part rfl 50 (.tmp 10) rfl (w2.heap.size) 0 rfl C C 50 (0, 0) _ R7_p.out (Part.self _) Try.underlying50 rfl IC.out ?_)
      | ((with_reducible refine at_op (Op.load 50 (.tmp 11)) ?_); refine wpList_load_part rfl 50 (.tmp 11) rfl (w3.heap.size) 0 rfl D D 50 (0, 0) _ R7_q.out (Part.self _) Try.underlying50 rfl ID.out ?_))
    refine (HAM'.out (by trivial) _).mono ?_
    rintro e w8 ⟨rfl, hb⟩
    have R8_p := Lib.hid (rowB R7_p.out hb)
    have R8_q := Lib.hid (rowB R7_q.out hb)
    have B8 := Lib.hid (joins B7.out hb)
    clear hb
    go_wp2_with fail
    go_returns
    exact ⟨rfl, B8.out⟩
  | false =>
    have B0 := Lib.hid (Below.refl w.heap.size w)
    go_enter Try.func38, Try.ntmps38
    go_wp2_with fail
    refine (HPF.out).mono ?_
    rintro e w1 ⟨rfl, hb⟩
    have B1 := Lib.hid (joins B0.out hb)
    clear hb
    go_wp2_with fail
    refine (HPG.out _ B1.out).mono ?_
    rintro e w2 ⟨rfl, hb⟩
    have B2 := Lib.hid (joins B1.out hb)
    clear hb
    go_wp2_with (first
      | ((with_reducible refine at_op (d := some 10) (Op.alloc 50) ?_); refine wpList_alloc_row rfl 50 rfl Z (fun w => ZZ.out w) ?_; intro w3 hr hb hz; have R3_p := Lib.hid hr; have B3 := Lib.hid (joins B2.out hb); have L3_p := Lib.hid (show w.heap.size ≤ w2.heap.size from B2.out.size); clear hr hb hz)
      | ((with_reducible refine at_op (d := some 11) (Op.alloc 50) ?_); refine wpList_alloc_row rfl 50 rfl Z (fun w => ZZ.out w) ?_; intro w4 hr hb hz; have N4_p_q := Lib.hid (Nat.ne_of_lt (row_lt R3_p.out)); have N4_q_p := Lib.hid (Ne.symm N4_p_q.out); have R4_p := Lib.hid (rowB R3_p.out hb); have R4_q := Lib.hid hr; have B4 := Lib.hid (joins B3.out hb); have L4_q := Lib.hid (show w.heap.size ≤ w3.heap.size from B3.out.size); clear hr hb hz)
      | ((with_reducible refine at_op (Op.store 50 (.tmp 10) (.tmp 14)) ?_); refine wpList_put_row rfl 50 (.tmp 10) (.tmp 14) rfl (w2.heap.size) C rfl rfl 50 Z R4_p.out 66 infoPr SC.out SZ.out OC.out w.heap.size w B4.out L3_p.out ?_; intro w5 hr hs hb; have R5_q := Lib.hid (hs.row R4_q.out N4_q_p.out); have R5_p := Lib.hid hr; have B5 := Lib.hid hb; clear hr hs hb)
      | ((with_reducible refine at_op (Op.store 50 (.tmp 11) (.tmp 17)) ?_); refine wpList_put_row rfl 50 (.tmp 11) (.tmp 17) rfl (w3.heap.size) D rfl rfl 50 Z R5_q.out 66 infoPr SD.out SZ.out OD.out w.heap.size w B5.out L4_q.out ?_; intro w6 hr hs hb; have R6_p := Lib.hid (hs.row R5_p.out N4_p_q.out); have R6_q := Lib.hid hr; have B6 := Lib.hid hb; clear hr hs hb)
      | ((with_reducible refine at_op (Op.load 50 (.tmp 10)) ?_); refine wpList_load_part rfl 50 (.tmp 10) rfl (w2.heap.size) 0 rfl C C 50 (0, 0) _ R6_p.out (Part.self _) Try.underlying50 rfl IC.out ?_)
      | ((with_reducible refine at_op (Op.load 50 (.tmp 11)) ?_); refine wpList_load_part rfl 50 (.tmp 11) rfl (w3.heap.size) 0 rfl D D 50 (0, 0) _ R6_q.out (Part.self _) Try.underlying50 rfl ID.out ?_))
    refine (HAL'.out _).mono ?_
    rintro e w7 ⟨rfl, hb⟩
    have R7_p := Lib.hid (rowB R6_p.out hb)
    have R7_q := Lib.hid (rowB R6_q.out hb)
    have B7 := Lib.hid (joins B6.out hb)
    clear hb
    go_wp2_with fail
    go_returns
    exact ⟨rfl, B7.out⟩
end Go.Proofs.Ytodgalflngfnpaa
