/- The program's sums of two correlations, and which pairs are Golay pairs. -/
import Derived.Test.YtcpeikkkegpdhaaIPr
import Derived.Test.YtcpeikkkegpdhaaCors
import Derived.Test.YtcpeikkkegpdhaaFlt
namespace Go.Proofs.Ytcpeikkkegpdhaa
set_option maxRecDepth 100000
open Go.RowKit

set_option maxHeartbeats 2000000 in
theorem ownSum_any (p q : List Int) (u : Int) (hp : isSeq p = true) (hq : isSeq q = true) (hpq : p.length = q.length) (h1 : 0 ≤ u) (h2 : u ≤ p.length) (w : World) :
    Calls Try.prog 26 #[.agg (prC p q), .int .i64 u] w (Ret w (.complex .f32 (f32of (goT vx p q u)) (f32of (goT vy p q u)))) := by
  have h32 := isSeq_len hp
  have ha := aperiodic_any p p u hp hp rfl (by omega) h2
  have hb := aperiodic_any q q u hq hq rfl (by omega) (by omega)
  rw [← phC_seq hp] at ha
  rw [← phC_seq hq] at hb
  have hadd := fun w t => run_addw (P := Try.prog) w t (apS vx p p u) (apS vy p p u) (apS vx q q u) (apS vy q q u) (apS_small vx vx_one p p u h32) (apS_small vy vy_one p p u h32) (apS_small vx vx_one q q u (by omega)) (apS_small vy vy_one q q u (by omega))
  rw [show apS vx p p u + apS vx q q u = goT vx p q u from rfl, show apS vy p p u + apS vy q q u = goT vy p q u from rfl] at hadd
  have PA := Lib.hid (prC_fst p q)
  have PB := Lib.hid (prC_snd p q)
  have IA := Lib.hid (infoPhC p)
  have IB := Lib.hid (infoPhC q)
  obtain ⟨x1, hx1⟩ : ∃ x, x = f32of (apS vx p p u) := ⟨_, rfl⟩
  obtain ⟨y1, hy1⟩ : ∃ x, x = f32of (apS vy p p u) := ⟨_, rfl⟩
  obtain ⟨x2, hx2⟩ : ∃ x, x = f32of (apS vx q q u) := ⟨_, rfl⟩
  obtain ⟨y2, hy2⟩ : ∃ x, x = f32of (apS vy q q u) := ⟨_, rfl⟩
  obtain ⟨x3, hx3⟩ : ∃ x, x = f32of (goT vx p q u) := ⟨_, rfl⟩
  obtain ⟨y3, hy3⟩ : ∃ x, x = f32of (goT vy p q u) := ⟨_, rfl⟩
  rw [← hx1, ← hy1] at ha hadd
  rw [← hx2, ← hy2] at hb hadd
  rw [← hx3, ← hy3] at hadd ⊢
  obtain ⟨C, hC⟩ : ∃ C, C = prC p q := ⟨_, rfl⟩
  obtain ⟨CA, hCA⟩ : ∃ C, C = phC p := ⟨_, rfl⟩
  obtain ⟨CB, hCB⟩ : ∃ C, C = phC q := ⟨_, rfl⟩
  rw [← hC] at PA PB ⊢
  rw [← hCA] at ha PA IA
  rw [← hCB] at hb PB IB
  have HA := Lib.hid ha
  have HB := Lib.hid hb
  clear ha hb hx1 hy1 hx2 hy2 hx3 hy3 hC hCA hCB hp hq hpq h1 h2 h32
  have B0 := Lib.hid (Below.refl w.heap.size w)
  go_enter Try.func26, Try.ntmps26
  go_wp2_with ((with_reducible refine at_op (Op.box 39 (.tmp 0)) ?_); refine wpList_box_row rfl 39 (.tmp 0) rfl C rfl ?_; intro w1 hr hb hz; have R1_p := Lib.hid hr; have B1 := Lib.hid (joins B0.out hb); have L1_p := Lib.hid (show w.heap.size ≤ w.heap.size from B0.out.size); clear hr hb hz)
  refine wp_region_held_drew (S := (fun w' => World.grownBy w1 w' none)) (by kernel_rfl) (grownDrew (World.grownBy.refl _ _)) ?_
  obtain ⟨w2, hdw⟩ : ∃ w', w' = w1.drew := ⟨_, rfl⟩
  rw [← hdw]
  have hb : Below w1.heap.size w1 w2 := by rw [hdw]; exact belowN (Below.refl _ _) 1
  have R2_p := Lib.hid (rowB R1_p.out hb)
  have B2 := Lib.hid (joins B1.out hb)
  clear hdw hb
  intro hHeld
  refine' wpAnyH_take (i := 0) (v := _) rfl (by kernel_rfl) (by kernel_rfl) (by kernel_rfl) (fun _ _ _ h => h) (Or.inl ⟨by rfl, ?hy1⟩) (by assumption) ?rest1
  case hy1 =>
    intro w h
    (try clear h)
    go_simp
    (try with_reducible rfl)
  (try simp only [Act.put, List.getElem_toArray, List.getElem_cons_zero, List.setIfInBounds_toArray, List.set_cons_zero, List.set_cons_succ])
  refine' wpAnyH_take (i := 1) (v := _) rfl (by kernel_rfl) (by kernel_rfl) (by kernel_rfl) (fun _ _ _ h => h) (yieldsPart (by rfl) 37 (.tmp 5) rfl (w.heap.size) 0 rfl C CA 39 (0, 0) _ (fun w h => (rowG R1_p.out h (by simp))) PA.out Try.underlying37 rfl IA.out) (by assumption) ?rest2
  (try simp only [Act.put, List.getElem_toArray, List.getElem_cons_zero, List.getElem_cons_succ, List.setIfInBounds_toArray, List.set_cons_zero, List.set_cons_succ])
  refine' wpAnyH_take (i := 2) (v := _) rfl (by kernel_rfl) (by kernel_rfl) (by kernel_rfl) (fun _ _ _ h => h) (Or.inl ⟨by rfl, ?hy3⟩) (by assumption) ?rest3
  case hy3 =>
    intro w h
    (try clear h)
    go_simp
    (try with_reducible rfl)
  (try simp only [Act.put, List.getElem_toArray, List.getElem_cons_zero, List.getElem_cons_succ, List.setIfInBounds_toArray, List.set_cons_zero, List.set_cons_succ])
  refine' wpAnyH_take (i := 3) (v := _) rfl (by kernel_rfl) (by kernel_rfl) (by kernel_rfl) (fun _ _ _ h => h) (yieldsPart (by rfl) 37 (.tmp 7) rfl (w.heap.size) 0 rfl C CA 39 (0, 0) _ (fun w h => (rowG R1_p.out h (by simp))) PA.out Try.underlying37 rfl IA.out) (by assumption) ?rest4
  (try simp only [Act.put, List.getElem_toArray, List.getElem_cons_zero, List.getElem_cons_succ, List.setIfInBounds_toArray, List.set_cons_zero, List.set_cons_succ])
  refine' wpAnyH_take (i := 4) (v := _) rfl (by kernel_rfl) (by kernel_rfl) (by kernel_rfl) (fun _ _ _ h => h) (Or.inl ⟨by rfl, ?hy5⟩) (by assumption) ?rest5
  case hy5 =>
    intro w h
    (try clear h)
    go_simp
    (try with_reducible rfl)
  (try simp only [Act.put, List.getElem_toArray, List.getElem_cons_zero, List.getElem_cons_succ, List.setIfInBounds_toArray, List.set_cons_zero, List.set_cons_succ])
  refine' wpAnyH_take (i := 6) (v := _) rfl (by kernel_rfl) (by kernel_rfl) (by kernel_rfl) (fun _ _ _ h => h) (Or.inl ⟨by rfl, ?hy6⟩) (by assumption) ?rest6
  case hy6 =>
    intro w h
    (try clear h)
    go_simp
    (try with_reducible rfl)
  (try simp only [Act.put, List.getElem_toArray, List.getElem_cons_zero, List.getElem_cons_succ, List.setIfInBounds_toArray, List.set_cons_zero, List.set_cons_succ])
  refine' wpAnyH_take (i := 7) (v := _) rfl (by kernel_rfl) (by kernel_rfl) (by kernel_rfl) (fun _ _ _ h => h) (yieldsPart (by rfl) 37 (.tmp 11) rfl (w.heap.size) 33 rfl C CB 39 (0, 0) _ (fun w h => (rowG R1_p.out h (by simp))) PB.out Try.underlying37 rfl IB.out) (by assumption) ?rest7
  (try simp only [Act.put, List.getElem_toArray, List.getElem_cons_zero, List.getElem_cons_succ, List.setIfInBounds_toArray, List.set_cons_zero, List.set_cons_succ])
  refine' wpAnyH_take (i := 8) (v := _) rfl (by kernel_rfl) (by kernel_rfl) (by kernel_rfl) (fun _ _ _ h => h) (Or.inl ⟨by rfl, ?hy8⟩) (by assumption) ?rest8
  case hy8 =>
    intro w h
    (try clear h)
    go_simp
    (try with_reducible rfl)
  (try simp only [Act.put, List.getElem_toArray, List.getElem_cons_zero, List.getElem_cons_succ, List.setIfInBounds_toArray, List.set_cons_zero, List.set_cons_succ])
  refine' wpAnyH_take (i := 9) (v := _) rfl (by kernel_rfl) (by kernel_rfl) (by kernel_rfl) (fun _ _ _ h => h) (yieldsPart (by rfl) 37 (.tmp 13) rfl (w.heap.size) 33 rfl C CB 39 (0, 0) _ (fun w h => (rowG R1_p.out h (by simp))) PB.out Try.underlying37 rfl IB.out) (by assumption) ?rest9
  (try simp only [Act.put, List.getElem_toArray, List.getElem_cons_zero, List.getElem_cons_succ, List.setIfInBounds_toArray, List.set_cons_zero, List.set_cons_succ])
  refine' wpAnyH_take (i := 10) (v := _) rfl (by kernel_rfl) (by kernel_rfl) (by kernel_rfl) (fun _ _ _ h => h) (Or.inl ⟨by rfl, ?hy10⟩) (by assumption) ?rest10
  case hy10 =>
    intro w h
    (try clear h)
    go_simp
    (try with_reducible rfl)
  (try simp only [Act.put, List.getElem_toArray, List.getElem_cons_zero, List.getElem_cons_succ, List.setIfInBounds_toArray, List.set_cons_zero, List.set_cons_succ])
  refine wpAnyH_ready (rs := [5]) (by kernel_rfl) (by simp) ?_
  refine AllReadyH.cons rfl (fun K hK => ?_) AllReadyH.nil
  go_simp
  refine (HA.out _).mono ?_
  rintro e w3 ⟨rfl, hb⟩
  have R3_p := Lib.hid (rowB R2_p.out hb)
  have B3 := Lib.hid (joins B2.out hb)
  have hHeld := grownB hHeld hb
  clear hb
  refine hK.out _ _ hHeld (fun hHeld => ?_)
  clear hK K
  (try simp only [Act.put, List.getElem_toArray, List.getElem_cons_zero, List.getElem_cons_succ, List.setIfInBounds_toArray, List.set_cons_zero, List.set_cons_succ])
  refine wpAnyH_ready (rs := [11]) (by kernel_rfl) (by simp) ?_
  refine AllReadyH.cons rfl (fun K hK => ?_) AllReadyH.nil
  go_simp
  refine (HB.out _).mono ?_
  rintro e w4 ⟨rfl, hb⟩
  have R4_p := Lib.hid (rowB R3_p.out hb)
  have B4 := Lib.hid (joins B3.out hb)
  have hHeld := grownB hHeld hb
  clear hb
  refine hK.out _ _ hHeld (fun hHeld => ?_)
  clear hK K
  (try simp only [Act.put, List.getElem_toArray, List.getElem_cons_zero, List.getElem_cons_succ, List.setIfInBounds_toArray, List.set_cons_zero, List.set_cons_succ])
  refine' wpAnyH_take (i := 12) (v := _) rfl (by kernel_rfl) (by kernel_rfl) (by kernel_rfl) (fun _ _ _ h => h) (Or.inl ⟨by rfl, ?hy11⟩) (by assumption) ?rest11
  case hy11 =>
    intro w h
    (try clear h)
    go_simp
    (try with_reducible rfl)
  (try simp only [Act.put, List.getElem_toArray, List.getElem_cons_zero, List.getElem_cons_succ, List.setIfInBounds_toArray, List.set_cons_zero, List.set_cons_succ])
  refine' wpAnyH_take (i := 13) (v := _) rfl (by kernel_rfl) (by kernel_rfl) (by kernel_rfl) (fun _ _ _ h => h) (Or.inl ⟨by rfl, ?hy12⟩) (by assumption) ?rest12
  case hy12 =>
    intro w h
    (try clear h)
    go_simp
    (try with_reducible rfl)
  (try simp only [Act.put, List.getElem_toArray, List.getElem_cons_zero, List.getElem_cons_succ, List.setIfInBounds_toArray, List.set_cons_zero, List.set_cons_succ])
  refine wpAnyH_done (by kernel_rfl) ?_ _
  go_wp2_with fail
  go_returns
  exact ⟨rfl, B4.out⟩

theorem neqZ (p q : List Int) (u : Int) (hp : p.length ≤ 32) (hq : q.length ≤ 32) (w : World) (t : TypeId) : (binOp .neq t (.complex .f32 (f32of (goT vx p q u)) (f32of (goT vy p q u))) (.complex .f32 0 0)).run Try.prog w = .ok (.bool (!(goZ p q u))) w :=
  run_neqz w t _ _ (goT_small vx vx_one p q u hp hq) (goT_small vy vy_one p q u hp hq)
set_option maxHeartbeats 2000000 in
theorem isGolayP_any (p q : List Int) (hp : isSeq p = true) (hq : isSeq q = true) (hpq : p.length = q.length) (w : World) :
    Calls Try.prog 20 #[.agg (prC p q)] w (Ret w (.bool (decide (1 ≤ p.length) && goB p q))) := by
  have h32 := isSeq_len hp
  have h32q := isSeq_len hq
  have HSUM := Lib.hid (fun (u : Int) (h1 : 0 ≤ u) (h2 : u ≤ p.length) => ownSum_any p q u hp hq hpq h1 h2)
  have HZ := Lib.hid (fun (u : Int) => neqZ p q u h32 h32q)
  have HLN := Lib.hid (prLength_any p q hp)
  have HIP := Lib.hid (prIsPair_any p q hp)
  have IC := Lib.hid (infoPrC p q)
  have HF := Lib.hid (goB_false p q)
  have HBD := Lib.hid (show goB p q = goN p q (p.length - 1) from rfl)
  obtain ⟨C, hC⟩ : ∃ C, C = prC p q := ⟨_, rfl⟩
  rw [← hC] at HSUM HLN HIP IC ⊢
  obtain ⟨L, hL⟩ : ∃ L, L = p.length := ⟨_, rfl⟩
  rw [← hL] at HSUM HLN HIP HF HBD h32 ⊢
  clear hC hp hq hpq h32q hL
  have B0 := Lib.hid (Below.refl w.heap.size w)
  go_enter Try.func20, Try.ntmps20
  go_wp2_with ((with_reducible refine at_op (Op.box 39 (.tmp 0)) ?_); refine wpList_box_row rfl 39 (.tmp 0) rfl C rfl ?_; intro w1 hr hb hz; have R1_p := Lib.hid hr; have B1 := Lib.hid (joins B0.out hb); have L1_p := Lib.hid (show w.heap.size ≤ w.heap.size from B0.out.size); clear hr hb hz)
  go_loopw [3] (fun u wr => ∃ k : Nat, u = .int .i64 ((k : Int) + 1) ∧ k ≤ L - 1 ∧ goN p q k = true ∧ wr.heap[w.heap.size]? = some (.cells C 39 (0, 0)) ∧ Below w.heap.size w wr) (fun u _ => L - (intOf u).toNat)
  case atStart => exact ⟨0, rfl, Nat.zero_le _, rfl, R1_p.out, B1.out⟩
  case round =>
    obtain ⟨k, rfl, hk, hN, hrow, hbel⟩ := hrel
    have RR := Lib.hid hrow
    have BR := Lib.hid hbel
    have HN := Lib.hid hN
    clear hrow hbel hN
    have h0 : (0 : Int) ≤ (k : Int) := by omega
    by_cases hlt : k + 1 < L
    · have h1 : (k : Int) + 1 < (L : Int) := by omega
      have HSk := Lib.hid (HSUM.out ((k : Int) + 1) (by omega) (by omega))
      have HZk := HZ.out ((k : Int) + 1)
      have HFk := Lib.hid (HF.out k hlt)
      have HSN := Lib.hid (show goN p q (k + 1) = (goN p q k && goZ p q ((k : Int) + 1)) from rfl)
      obtain ⟨x, hx⟩ : ∃ x, x = f32of (goT vx p q ((k : Int) + 1)) := ⟨_, rfl⟩
      obtain ⟨y, hy⟩ : ∃ x, x = f32of (goT vy p q ((k : Int) + 1)) := ⟨_, rfl⟩
      rw [← hx, ← hy] at HSk HZk
      clear hx hy
      cases hz : goZ p q ((k : Int) + 1) with
      | true =>
        rw [hz] at HZk HSN
        clear hz HFk
        go_wp2_with ((with_reducible refine at_op (Op.load 39 (.tmp 1)) ?_); refine wpList_load_part rfl 39 (.tmp 1) rfl (w.heap.size) 0 rfl C C 39 (0, 0) _ RR.out (Part.self _) Try.underlying39 rfl IC.out ?_)
        refine (HLN.out _).mono ?_
        rintro e w11 ⟨rfl, hb⟩
        have R11_p := Lib.hid (rowB RR.out hb)
        have B11 := Lib.hid (joins BR.out hb)
        clear hb
        go_wp2_with ((with_reducible refine at_op (Op.load 39 (.tmp 1)) ?_); refine wpList_load_part rfl 39 (.tmp 1) rfl (w.heap.size) 0 rfl C C 39 (0, 0) _ R11_p.out (Part.self _) Try.underlying39 rfl IC.out ?_)
        refine (HSk.out _).mono ?_
        rintro e w12 ⟨rfl, hb⟩
        have R12_p := Lib.hid (rowB R11_p.out hb)
        have B12 := Lib.hid (joins B11.out hb)
        clear hb
        go_wp2_with fail
        go_roundw
        case rel => exact ⟨k + 1, by go_num, by omega, by rw [HSN.out, HN.out]; rfl, R12_p.out, B12.out⟩
        case measure => simp [intOf]; omega
      | false =>
        rw [hz] at HZk HFk
        clear hz HSN
        go_wp2_with ((with_reducible refine at_op (Op.load 39 (.tmp 1)) ?_); refine wpList_load_part rfl 39 (.tmp 1) rfl (w.heap.size) 0 rfl C C 39 (0, 0) _ RR.out (Part.self _) Try.underlying39 rfl IC.out ?_)
        refine (HLN.out _).mono ?_
        rintro e w11 ⟨rfl, hb⟩
        have R11_p := Lib.hid (rowB RR.out hb)
        have B11 := Lib.hid (joins BR.out hb)
        clear hb
        go_wp2_with ((with_reducible refine at_op (Op.load 39 (.tmp 1)) ?_); refine wpList_load_part rfl 39 (.tmp 1) rfl (w.heap.size) 0 rfl C C 39 (0, 0) _ R11_p.out (Part.self _) Try.underlying39 rfl IC.out ?_)
        refine (HSk.out _).mono ?_
        rintro e w12 ⟨rfl, hb⟩
        have R12_p := Lib.hid (rowB R11_p.out hb)
        have B12 := Lib.hid (joins B11.out hb)
        clear hb
        go_wp2_with fail
        go_returns
        exact ⟨ret_bool (by rw [HFk.out (by trivial), Bool.and_false]), B12.out⟩
    · have h1 : ¬ ((k : Int) + 1 < (L : Int)) := by omega
      have hr : (decide (1 ≤ L) && goB p q) = decide (1 ≤ L) := by
        rcases Nat.eq_zero_or_pos L with e | e
        · rw [e]; rfl
        · rw [HBD.out, show L - 1 = k by omega, HN.out, Bool.and_true]
      have HR := Lib.hid hr
      clear hr
      go_wp2_with ((with_reducible refine at_op (Op.load 39 (.tmp 1)) ?_); refine wpList_load_part rfl 39 (.tmp 1) rfl (w.heap.size) 0 rfl C C 39 (0, 0) _ RR.out (Part.self _) Try.underlying39 rfl IC.out ?_)
      refine (HLN.out _).mono ?_
      rintro e w11 ⟨rfl, hb⟩
      have R11_p := Lib.hid (rowB RR.out hb)
      have B11 := Lib.hid (joins BR.out hb)
      clear hb
      go_wp2_with ((with_reducible refine at_op (Op.load 39 (.tmp 1)) ?_); refine wpList_load_part rfl 39 (.tmp 1) rfl (w.heap.size) 0 rfl C C 39 (0, 0) _ R11_p.out (Part.self _) Try.underlying39 rfl IC.out ?_)
      refine (HIP.out _).mono ?_
      rintro e w12 ⟨rfl, hb⟩
      have R12_p := Lib.hid (rowB R11_p.out hb)
      have B12 := Lib.hid (joins B11.out hb)
      clear hb
      go_wp2_with fail
      go_returns
      exact ⟨ret_bool HR.out.symm, B12.out⟩
end Go.Proofs.Ytcpeikkkegpdhaa
