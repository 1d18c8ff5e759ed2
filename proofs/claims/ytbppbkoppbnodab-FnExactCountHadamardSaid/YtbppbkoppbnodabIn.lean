/- The program's inner products: inner, inners. -/
import Derived.Test.YtbppbkoppbnodabIMx
import Derived.Deep.QuietTactic
import Derived.BigQuiet
namespace Go.Proofs.Ytbppbkoppbnodab
set_option maxRecDepth 100000
open Go.RowKit

theorem grownCell' {w0 w : World} {g : Nat} (h : w0.grownBy w (some g)) (o : Nat) (v : Value) : w0.grownBy (w.setCell ⟨g, o, none⟩ v) (some g) :=
  ⟨h.os, h.tape, h.output, by simpa using h.size, fun k hk hne => (heap_setCell_other w ⟨g, o, none⟩ k v (fun e => hne (by rw [e]))).trans (h.block k hk hne)⟩
theorem cell_rv {w : World} {g c n : Nat} {V : Nat → Nat × Nat} {t : TypeId} (h : w.heap[g]? = some (.cells (rvC V n) t (0, 0))) (hc : c < n) : w.cell? ⟨g, c, none⟩ = some (.complex .f32 (V c).1 (V c).2) := rowC h (rvC_get V n c hc)
theorem set_rv {w : World} {g c n : Nat} {V : Nat → Nat × Nat} {t : TypeId} (h : w.heap[g]? = some (.cells (rvC V n) t (0, 0))) (hc : c < n) (x : Nat × Nat) :
    (w.setCell ⟨g, c, none⟩ (.complex .f32 x.1 x.2)).heap[g]? = some (.cells (rvC (up V c x) n) t (0, 0)) := by
  have := heap_setCell_same w g c _ _ (.complex .f32 x.1 x.2) h
  rwa [show (rvC V n).setIfInBounds c (.complex .f32 x.1 x.2) = rvC (up V c x) n from rvC_set V n c hc x] at this
theorem zeroTb (w : World) : (zeroValue 53).run Try.prog w = .ok (.agg (rvC V0 64)) w := by
  refine zero_is_of ?_ w
  kernel_rfl
theorem zeroRv (w : World) : (zeroValue 51).run Try.prog w = .ok (.agg (rvC V0 8)) w := by
  refine zero_is_of ?_ w
  kernel_rfl
set_option maxRecDepth 100000 in
set_option maxHeartbeats 4000000 in
theorem inner_any (V W : Nat → Nat × Nat) (n : Nat) (a b : Nat → Int) (ha : RowR V n a) (hb : RowR W n b) (w : World) :
    Calls Try.prog 44 #[.agg (rvC V 8), .agg (rvC W 8)] w (Ret w (.complex .f32 (f32of (ipS vx a b n)) (f32of (ipS vy a b n)))) := by
  have HST := Lib.hid (fun j (hj : j < 8) => ip_step ha hb j hj)
  have HBX := Lib.hid (fun k (hk : k ≤ 8) => ipS_small vx vx_one a b n k hk)
  have HBY := Lib.hid (fun k (hk : k ≤ 8) => ipS_small vy vy_one a b n k hk)
  obtain ⟨S, hS⟩ : ∃ S : Nat → Int, S = sumN (ipT vx a b n) := ⟨_, rfl⟩
  obtain ⟨T, hT⟩ : ∃ S : Nat → Int, S = sumN (ipT vy a b n) := ⟨_, rfl⟩
  have HSS := Lib.hid (fun k => show S (k + 1) = S k + ipT vx a b n k by rw [hS]; rfl)
  have HTS := Lib.hid (fun k => show T (k + 1) = T k + ipT vy a b n k by rw [hT]; rfl)
  have hS0 : S 0 = 0 := by rw [hS]; rfl
  have hT0 : T 0 = 0 := by rw [hT]; rfl
  unfold ipS
  rw [← hS] at HBX ⊢
  rw [← hT] at HBY ⊢
  have HS0 := Lib.hid (show f32of (S 0) = 0 by rw [hS0]; rfl)
  have HT0 := Lib.hid (show f32of (T 0) = 0 by rw [hT0]; rfl)
  clear ha hb hS hT hS0 hT0
  have B0 := Lib.hid (Below.refl w.heap.size w)
  go_enter Try.func44, Try.ntmps44
  go_wp2_with (first
    | ((with_reducible refine at_op (Op.box 51 (.tmp 0)) ?_); refine wpList_box_row rfl 51 (.tmp 0) rfl (rvC V 8) rfl ?_; intro w1 hr hb hz; have R1_a := Lib.hid hr; have B1 := Lib.hid (joins B0.out hb); have L1_a := Lib.hid (show w.heap.size ≤ w.heap.size from B0.out.size); clear hr hb hz)
    | ((with_reducible refine at_op (Op.box 51 (.tmp 1)) ?_); refine wpList_box_row rfl 51 (.tmp 1) rfl (rvC W 8) rfl ?_; intro w2 hr hb hz; have N2_a_b := Lib.hid (Nat.ne_of_lt (row_lt R1_a.out)); have N2_b_a := Lib.hid (Ne.symm N2_a_b.out); have R2_a := Lib.hid (rowB R1_a.out hb); have R2_b := Lib.hid hr; have B2 := Lib.hid (joins B1.out hb); have L2_b := Lib.hid (show w.heap.size ≤ w1.heap.size from B1.out.size); clear hr hb hz))
  have RA0 := R2_a
  have RB0 := R2_b
  have BB0 := B2
  go_loopw [7, 5] (fun q s wr => ∃ k : Nat, k ≤ 8 ∧ q = .int .i64 k ∧ s = .complex .f32 (f32of (S k)) (f32of (T k)) ∧ wr.heap[w.heap.size]? = some (.cells (rvC V 8) 51 (0, 0)) ∧ wr.heap[w1.heap.size]? = some (.cells (rvC W 8) 51 (0, 0)) ∧ Below w.heap.size w wr) (fun q _ _ => 8 - (intOf q).toNat)
  case atStart => exact ⟨0, Nat.zero_le _, rfl, by rw [HS0.out, HT0.out], RA0.out, RB0.out, BB0.out⟩
  case round =>
    obtain ⟨k, hk, rfl, rfl, hra, hrb, hbel⟩ := hrel
    have RA := Lib.hid hra
    have RB := Lib.hid hrb
    have BR := Lib.hid hbel
    clear hra hrb hbel
    by_cases hlt : k < 8
    · have h0 : (0 : Int) ≤ (k : Int) := by omega
      have h1 : (k : Int) < 8 := by omega
      obtain ⟨p, hp1, hp2, hp3, hp4, hp5⟩ := HST.out k hlt
      have hbx := HBX.out k (by omega)
      have hby := HBY.out k (by omega)
      have hss := HSS.out k
      have hts := HTS.out k
      rw [← hp4] at hss
      rw [← hp5] at hts
      have ca := cell_rv RA.out hlt
      have cb := cell_rv RB.out hlt
      obtain ⟨x1, hx1⟩ : ∃ x, x = (V k).1 := ⟨_, rfl⟩
      obtain ⟨x2, hx2⟩ : ∃ x, x = (V k).2 := ⟨_, rfl⟩
      obtain ⟨y1, hy1⟩ : ∃ x, x = (W k).1 := ⟨_, rfl⟩
      obtain ⟨y2, hy2⟩ : ∃ x, x = (W k).2 := ⟨_, rfl⟩
      obtain ⟨p1, p2⟩ := p
      rw [← hx1, ← hx2] at ca hp1
      rw [← hy1, ← hy2] at cb hp1
      have HC := Lib.hid (conjugateValue_any y1 y2)
      obtain ⟨z, hz⟩ : ∃ x, x = f32neg y2 := ⟨_, rfl⟩
      rw [← hz] at HC hp1
      have hmul := fun w t => run_complex_mul32 (P := Try.prog) w t _ _ _ _ _ _ hp1
      have hadd := fun w t => run_addv (P := Try.prog) w t (S k) (T k) p1 p2 (by omega) (by omega) hp2 hp3
      simp only at hss hts
      rw [← hss, ← hts] at hadd
      obtain ⟨s1, hs1⟩ : ∃ x, x = f32of (S k) := ⟨_, rfl⟩
      obtain ⟨s2, hs2⟩ : ∃ x, x = f32of (T k) := ⟨_, rfl⟩
      obtain ⟨s3, hs3⟩ : ∃ x, x = f32of (S (k + 1)) := ⟨_, rfl⟩
      obtain ⟨s4, hs4⟩ : ∃ x, x = f32of (T (k + 1)) := ⟨_, rfl⟩
      rw [← hs1, ← hs2, ← hs3, ← hs4] at hadd
      rw [← hs1, ← hs2]
      have HS3 := Lib.hid hs3
      have HS4 := Lib.hid hs4
      clear hp1 hp2 hp3 hp4 hp5 hss hts hx1 hx2 hy1 hy2 hz hs1 hs2 hs3 hs4 hbx hby
      go_wp2_with fail
      go_region_with (go_at_call 67; refine (HC.out _).mono ?_; rintro e w' ⟨rfl, rfl⟩)
      all_goals
        go_wp2_with fail
        go_roundw
        case rel => exact ⟨k + 1, by omega, by go_num, by rw [HS3.out, HS4.out], RA.out, RB.out, belowN BR.out 1⟩
        case measure => simp [intOf]; omega
    · obtain rfl : k = 8 := by omega
      go_wp2_with fail
      go_returns
      exact ⟨rfl, BR.out⟩

/-- The inner products of a matrix: of each row with each row. -/
def inV (M : Nat → Nat → Int) (n : Nat) : Nat → Nat × Nat := fun c => (f32of (ipS vx (M (c / 8)) (M (c % 8)) n), f32of (ipS vy (M (c / 8)) (M (c % 8)) n))
set_option maxRecDepth 100000 in
set_option maxHeartbeats 4000000 in
theorem inners_any (V : Nat → Nat × Nat) (n : Nat) (M : Nat → Nat → Int) (hV : MxR V n M) (w : World) :
    Calls Try.prog 64 #[.agg (mxC V n)] w (Ret w (.agg (rvC (sqV n (inV M n) V0) 64))) := by
  have hn := hV.1
  have HIN := Lib.hid (fun i j (hi : i < n) (hj : j < n) => inner_any _ _ n (M i) (M j) (hV.row i hi) (hV.row j hj))
  obtain ⟨F, hF⟩ : ∃ F : Nat → Nat × Nat, F = inV M n := ⟨_, rfl⟩
  have HFV := Lib.hid (fun a b (hb : b < 8) => show (F (a * 8 + b)) = (f32of (ipS vx (M a) (M b) n), f32of (ipS vy (M a) (M b) n)) by
    rw [hF]; unfold inV; rw [show (a * 8 + b) / 8 = a by omega, show (a * 8 + b) % 8 = b by omega])
  rw [← hF]
  have PI := Lib.hid (fun i (hi : i < n) => mxC_row V n (i * 8) (by omega))
  have IR8 := Lib.hid infoRvC
  have ZT := Lib.hid zeroTb
  have HL := Lib.hid (mxC_side V n)
  clear hV hF
  have B0 := Lib.hid (Below.refl w.heap.size w)
  go_enter Try.func64, Try.ntmps64
  go_wp2_with (first
    | ((with_reducible refine at_op (Op.box 55 (.tmp 0)) ?_); refine wpList_box_row rfl 55 (.tmp 0) rfl (mxC V n) rfl ?_; intro w1 hr hb hz; have R1_m := Lib.hid hr; have B1 := Lib.hid (joins B0.out hb); have L1_m := Lib.hid (show w.heap.size ≤ w.heap.size from B0.out.size); clear hr hb hz)
    | ((with_reducible refine at_op (d := some 2) (Op.alloc 53) ?_); refine wpList_alloc_row rfl 53 rfl (rvC V0 64) (fun w => ZT.out w) ?_; intro w2 hr hb hz; have N2_m_r := Lib.hid (Nat.ne_of_lt (row_lt R1_m.out)); have N2_r_m := Lib.hid (Ne.symm N2_m_r.out); have R2_m := Lib.hid (rowB R1_m.out hb); have R2_r := Lib.hid hr; have B2 := Lib.hid (joins B1.out hb); have L2_r := Lib.hid (show w.heap.size ≤ w1.heap.size from B1.out.size); clear hr hb hz)
    | ((with_reducible refine at_op (d := some 3) (Op.alloc 53) ?_); refine wpList_alloc_row rfl 53 rfl (rvC V0 64) (fun w => ZT.out w) ?_; intro w3 hr hb hz; have N3_m_o := Lib.hid (Nat.ne_of_lt (row_lt R2_m.out)); have N3_o_m := Lib.hid (Ne.symm N3_m_o.out); have N3_r_o := Lib.hid (Nat.ne_of_lt (row_lt R2_r.out)); have N3_o_r := Lib.hid (Ne.symm N3_r_o.out); have R3_m := Lib.hid (rowB R2_m.out hb); have R3_r := Lib.hid (rowB R2_r.out hb); have R3_o := Lib.hid hr; have B3 := Lib.hid (joins B2.out hb); have L3_o := Lib.hid (show w.heap.size ≤ w2.heap.size from B2.out.size); have c0 := rowC R3_m.out HL.out; clear hr hb hz))
  have LR := L2_r
  have LO := L3_o
  have NMO := N3_m_o
  have NRO := N3_r_o
  have NOR := N3_o_r
  have RM0 := R3_m
  have RR0 := R3_r
  have RO0 := R3_o
  have BB0 := B3
  go_loopw [8] (fun q wr => ∃ a : Nat, a ≤ n ∧ q = .int .i64 a ∧ wr.heap[w.heap.size]? = some (.cells (mxC V n) 55 (0, 0)) ∧ wr.heap[w1.heap.size]? = some (.cells (rvC V0 64) 53 (0, 0)) ∧ wr.heap[w2.heap.size]? = some (.cells (rvC (pgR n a 0 F V0) 64) 53 (0, 0)) ∧ Below w.heap.size w wr) (fun q _ => n - (intOf q).toNat)
  case atStart => exact ⟨0, Nat.zero_le _, rfl, RM0.out, RR0.out, by rw [pgR_start]; exact RO0.out, BB0.out⟩
  case round =>
    obtain ⟨a, ha, rfl, hm, hr, ho, hbel⟩ := hrel
    have RM := Lib.hid hm
    have RR := Lib.hid hr
    have RO := Lib.hid ho
    have BR := Lib.hid hbel
    have c0 := rowC hm (mxC_side _ _)
    clear hm hr ho hbel
    generalize hwo : wr = wo at *
    clear hwo
    by_cases hlt : a < n
    · have h0 : (0 : Int) ≤ (a : Int) := by omega
      have h1 : (a : Int) < (n : Int) := by omega
      go_wp2_with fail
      go_loopw [13] (fun q wr => ∃ b : Nat, b ≤ n ∧ q = .int .i64 b ∧ wr.heap[w.heap.size]? = some (.cells (mxC V n) 55 (0, 0)) ∧ wr.heap[w1.heap.size]? = some (.cells (rvC V0 64) 53 (0, 0)) ∧ wr.heap[w2.heap.size]? = some (.cells (rvC (pgR n a b F V0) 64) 53 (0, 0)) ∧ Below w.heap.size w wr) (fun q _ => n - (intOf q).toNat)
      case atStart => exact ⟨0, Nat.zero_le _, rfl, RM.out, RR.out, RO.out, BR.out⟩
      case round =>
        obtain ⟨b, hb, rfl, hm, hr, ho, hbel⟩ := hrel
        have RM2 := Lib.hid hm
        have RR2 := Lib.hid hr
        have RO2 := Lib.hid ho
        have BR2 := Lib.hid hbel
        clear hm hr ho hbel
        by_cases hlb : b < n
        · have h0b : (0 : Int) ≤ (b : Int) := by omega
          have h1b : (b : Int) < (n : Int) := by omega
          have h8a : (a : Int) < 8 := by omega
          have h8b : (b : Int) < 8 := by omega
          have hin := HIN.out a b hlt hlb
          have hFb := HFV.out a b (by omega)
          have PA := Lib.hid (PI.out a hlt)
          have PB := Lib.hid (PI.out b hlb)
          obtain ⟨U1, hU1⟩ : ∃ U : Nat → Nat × Nat, U = fun c => V (a * 8 + c) := ⟨_, rfl⟩
          obtain ⟨U2, hU2⟩ : ∃ U : Nat → Nat × Nat, U = fun c => V (b * 8 + c) := ⟨_, rfl⟩
          rw [← hU1] at PA hin
          rw [← hU2] at PB hin
          have hset := fun (w' : World) (h : w'.heap[w2.heap.size]? = some (.cells (rvC (pgR n a b F V0) 64) 53 (0, 0))) => set_rv h (c := a * 8 + b) (by omega) (F (a * 8 + b))
          rw [pgR_step n a b F V0 hn hlt hlb] at hset
          rw [hFb] at hset
          obtain ⟨x, hx⟩ : ∃ x, x = f32of (ipS vx (M a) (M b) n) := ⟨_, rfl⟩
          obtain ⟨y, hy⟩ : ∃ x, x = f32of (ipS vy (M a) (M b) n) := ⟨_, rfl⟩
          rw [← hx, ← hy] at hset hin
          have HIN' := Lib.hid hin
          have HSET := Lib.hid hset
          clear hset hFb hx hy hU1 hU2 hin
          have hst := @store_complex Try.prog
          go_wp2_with fail
          refine wp_region_held_drew (S := (fun w' => World.grownBy wr w' (some (w2.heap.size)))) (by kernel_rfl) (grownDrew (World.grownBy.refl _ _)) ?_
          obtain ⟨w31, hdw⟩ : ∃ w', w' = wr.drew := ⟨_, rfl⟩
          rw [← hdw]
          have hb : Below wr.heap.size wr w31 := by rw [hdw]; exact belowN (Below.refl _ _) 1
          have R31_m := Lib.hid (rowB RM2.out hb)
          have R31_r := Lib.hid (rowB RR2.out hb)
          have R31_o := Lib.hid (rowB RO2.out hb)
          have B31 := Lib.hid (joins BR2.out hb)
          clear hdw hb
          intro hHeld
          refine' wpAnyH_take (i := 0) (v := _) rfl (by kernel_rfl) (by kernel_rfl) (by kernel_rfl) (fun _ _ _ h => h) (Or.inl ⟨by rfl, ?hy1⟩) (by assumption) ?rest1
          case hy1 =>
            intro w h
            (try clear h)
            go_simp
            (try with_reducible rfl)
          (try simp only [Act.put, List.getElem_toArray, List.getElem_cons_zero, List.setIfInBounds_toArray, List.set_cons_zero, List.set_cons_succ])
          refine' wpAnyH_take (i := 1) (v := _) rfl (by kernel_rfl) (by kernel_rfl) (by kernel_rfl) (fun _ _ _ h => h) (Or.inl ⟨by rfl, ?hy2⟩) (by assumption) ?rest2
          case hy2 =>
            intro w h
            (try clear h)
            go_simp
            (try with_reducible rfl)
          (try simp only [Act.put, List.getElem_toArray, List.getElem_cons_zero, List.getElem_cons_succ, List.setIfInBounds_toArray, List.set_cons_zero, List.set_cons_succ])
          refine' wpAnyH_take (i := 2) (v := _) rfl (by kernel_rfl) (by kernel_rfl) (by kernel_rfl) (fun _ _ _ h => h) (Or.inl ⟨by rfl, ?hy3⟩) (by assumption) ?rest3
          case hy3 =>
            intro w h
            (try clear h)
            go_simp
            (try with_reducible rfl)
          (try simp only [Act.put, List.getElem_toArray, List.getElem_cons_zero, List.getElem_cons_succ, List.setIfInBounds_toArray, List.set_cons_zero, List.set_cons_succ])
          refine' wpAnyH_take (i := 3) (v := _) rfl (by kernel_rfl) (by kernel_rfl) (by kernel_rfl) (fun _ _ _ h => h) (Or.inl ⟨by rfl, ?hy4⟩) (by assumption) ?rest4
          case hy4 =>
            intro w h
            (try clear h)
            go_simp
            (try with_reducible rfl)
          (try simp only [Act.put, List.getElem_toArray, List.getElem_cons_zero, List.getElem_cons_succ, List.setIfInBounds_toArray, List.set_cons_zero, List.set_cons_succ])
          refine' wpAnyH_take (i := 4) (v := _) rfl (by kernel_rfl) (by kernel_rfl) (by kernel_rfl) (fun _ _ _ h => h) (Or.inl ⟨by rfl, ?hy5⟩) (by assumption) ?rest5
          case hy5 =>
            intro w h
            (try clear h)
            go_simp
            (try with_reducible rfl)
          (try simp only [Act.put, List.getElem_toArray, List.getElem_cons_zero, List.getElem_cons_succ, List.setIfInBounds_toArray, List.set_cons_zero, List.set_cons_succ])
          refine' wpAnyH_take (i := 5) (v := _) rfl (by kernel_rfl) (by kernel_rfl) (by kernel_rfl) (fun _ _ _ h => h) (yieldsPart (by rfl) 51 (.tmp 20) rfl (w.heap.size) (a * 8) rfl (mxC V n) (rvC U1 8) 55 (0, 0) _ (fun w h => (rowG RM2.out h (fun e => NMO.out (Option.some.inj e)))) PA.out Try.underlying51 rfl (IR8.out U1)) (by assumption) ?rest6
          (try simp only [Act.put, List.getElem_toArray, List.getElem_cons_zero, List.getElem_cons_succ, List.setIfInBounds_toArray, List.set_cons_zero, List.set_cons_succ])
          refine' wpAnyH_take (i := 6) (v := _) rfl (by kernel_rfl) (by kernel_rfl) (by kernel_rfl) (fun _ _ _ h => h) (Or.inl ⟨by rfl, ?hy7⟩) (by assumption) ?rest7
          case hy7 =>
            intro w h
            (try clear h)
            go_simp
            (try with_reducible rfl)
          (try simp only [Act.put, List.getElem_toArray, List.getElem_cons_zero, List.getElem_cons_succ, List.setIfInBounds_toArray, List.set_cons_zero, List.set_cons_succ])
          refine' wpAnyH_take (i := 7) (v := _) rfl (by kernel_rfl) (by kernel_rfl) (by kernel_rfl) (fun _ _ _ h => h) (Or.inl ⟨by rfl, ?hy8⟩) (by assumption) ?rest8
          case hy8 =>
            intro w h
            (try clear h)
            go_simp
            (try with_reducible rfl)
          (try simp only [Act.put, List.getElem_toArray, List.getElem_cons_zero, List.getElem_cons_succ, List.setIfInBounds_toArray, List.set_cons_zero, List.set_cons_succ])
          refine' wpAnyH_take (i := 8) (v := _) rfl (by kernel_rfl) (by kernel_rfl) (by kernel_rfl) (fun _ _ _ h => h) (Or.inl ⟨by rfl, ?hy9⟩) (by assumption) ?rest9
          case hy9 =>
            intro w h
            (try clear h)
            go_simp
            (try with_reducible rfl)
          (try simp only [Act.put, List.getElem_toArray, List.getElem_cons_zero, List.getElem_cons_succ, List.setIfInBounds_toArray, List.set_cons_zero, List.set_cons_succ])
          refine' wpAnyH_take (i := 9) (v := _) rfl (by kernel_rfl) (by kernel_rfl) (by kernel_rfl) (fun _ _ _ h => h) (yieldsPart (by rfl) 51 (.tmp 24) rfl (w.heap.size) (b * 8) rfl (mxC V n) (rvC U2 8) 55 (0, 0) _ (fun w h => (rowG RM2.out h (fun e => NMO.out (Option.some.inj e)))) PB.out Try.underlying51 rfl (IR8.out U2)) (by assumption) ?rest10
          (try simp only [Act.put, List.getElem_toArray, List.getElem_cons_zero, List.getElem_cons_succ, List.setIfInBounds_toArray, List.set_cons_zero, List.set_cons_succ])
          refine' wpAnyH_take (i := 11) (v := _) rfl (by kernel_rfl) (by kernel_rfl) (by kernel_rfl) (fun _ _ _ h => h) (Or.inl ⟨by rfl, ?hy11⟩) (by assumption) ?rest11
          case hy11 =>
            intro w h
            (try clear h)
            go_simp
            (try with_reducible rfl)
          (try simp only [Act.put, List.getElem_toArray, List.getElem_cons_zero, List.getElem_cons_succ, List.setIfInBounds_toArray, List.set_cons_zero, List.set_cons_succ])
          refine wpAnyH_ready (rs := [10]) (by kernel_rfl) (by simp) ?_
          refine AllReadyH.cons rfl (fun K hK => ?_) AllReadyH.nil
          go_simp
          refine (HIN'.out _).mono ?_
          rintro e w32 ⟨rfl, hb⟩
          have R32_m := Lib.hid (rowB R31_m.out hb)
          have R32_r := Lib.hid (rowB R31_r.out hb)
          have R32_o := Lib.hid (rowB R31_o.out hb)
          have B32 := Lib.hid (joins B31.out hb)
          have hHeld := grownB hHeld hb
          clear hb
          refine hK.out _ _ hHeld (fun hHeld => ?_)
          clear hK K
          (try simp only [Act.put, List.getElem_toArray, List.getElem_cons_zero, List.getElem_cons_succ, List.setIfInBounds_toArray, List.set_cons_zero, List.set_cons_succ])
          refine' wpAnyH_take (i := 12) (v := _) rfl (by kernel_rfl) (by kernel_rfl) (by kernel_rfl) (fun _ _ _ h => h) (Or.inl ⟨by rfl, ?hy12⟩) (by assumption) ?rest12
          case hy12 =>
            intro w h
            (try clear h)
            go_simp
            (try with_reducible rfl)
          (try simp only [Act.put, List.getElem_toArray, List.getElem_cons_zero, List.getElem_cons_succ, List.setIfInBounds_toArray, List.set_cons_zero, List.set_cons_succ])
          refine wpAnyH_ready (rs := [13]) (by kernel_rfl) (by simp) ?_
          refine AllReadyH.cons rfl (fun K hK => ?_) AllReadyH.nil
          have ct := cell_rv R32_o.out (c := a * 8 + b) (by omega)
          have ft := rowFree (i := a * 8 + b) R32_o.out
          have S2 := Lib.hid (HSET.out _ R32_o.out)
          have M2 := Lib.hid ((heap_setCell_other _ ⟨w2.heap.size, a * 8 + b, none⟩ (w.heap.size) (.complex .f32 x y) NMO.out).trans R32_m.out)
          have R2 := Lib.hid ((heap_setCell_other _ ⟨w2.heap.size, a * 8 + b, none⟩ (w1.heap.size) (.complex .f32 x y) NRO.out).trans R32_r.out)
          have B3 := Lib.hid (B32.out.setCell (p := ⟨w2.heap.size, a * 8 + b, none⟩) LO.out (.complex .f32 x y))
          go_simp
          refine hK.out _ _ (grownCell' hHeld _ _) (fun hHeld => ?_)
          clear hK K
          (try simp only [Act.put])
          refine wpAnyH_done (by kernel_rfl) ?_ _
          go_wp2_with fail
          go_roundw
          case rel => exact ⟨b + 1, by omega, by go_num, M2.out, R2.out, S2.out, B3.out⟩
          case measure => simp [intOf]; omega
        · obtain rfl : n = b := by omega
          go_wp2_with fail
          go_roundw
          case rel => exact ⟨a + 1, by omega, by go_num, RM2.out, RR2.out, by rw [← pgR_row]; exact RO2.out, BR2.out⟩
          case measure => simp [intOf]; omega
    · obtain rfl : n = a := by omega
      rw [pgR_end] at RO
      have IW := Lib.hid (infoTbC (sqV n F V0))
      obtain ⟨W, hW⟩ : ∃ W, W = rvC (sqV n F V0) 64 := ⟨_, rfl⟩
      have SW := Lib.hid (rvC_size (sqV n F V0) 64)
      have OW := Lib.hid (rvC_one (sqV n F V0) 64)
      rw [← hW] at RO IW SW OW
      have HW := Lib.hid hW
      clear hW
      go_wp2_with (first
        | ((with_reducible refine at_op (Op.load 53 (.tmp 3)) ?_); refine wpList_load_part rfl 53 (.tmp 3) rfl (w2.heap.size) 0 rfl W W 53 (0, 0) _ RO.out (Part.self _) Try.underlying53 rfl IW.out ?_)
        | ((with_reducible refine at_op (Op.store 53 (.tmp 2) (.tmp 31)) ?_); refine wpList_put_row rfl 53 (.tmp 2) (.tmp 31) rfl (w1.heap.size) W rfl rfl 53 (rvC V0 64) RR.out 64 infoTb SW.out (rvC_size _ _) OW.out w.heap.size w BR.out LR.out ?_; intro w21 hr hs hb; have R21_o := Lib.hid (hs.row RO.out NOR.out); have R21_r := Lib.hid hr; have B21 := Lib.hid hb; clear hr hs hb))
      refine bodyPost_ret (v := .agg W) ?_ rfl ⟨by rw [HW.out], B21.out⟩
      exact results_cell_row Try.results64 _ _ (w1.heap.size) 53 W (0, 0) _ rfl R21_r.out Try.underlying53 rfl IW.out
end Go.Proofs.Ytbppbkoppbnodab
