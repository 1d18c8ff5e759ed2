/- The program's excess, ExcessOf, InnerOf. -/
import Derived.Test.YtbppbkoppbnodabIHd
import Derived.Test.YtbppbkoppbnodabSHaF
import Derived.Test.YtbppbkoppbnodabSMaE
namespace Go.Proofs.Ytbppbkoppbnodab
set_option maxRecDepth 100000
open Go.RowKit

theorem ZG.setAt {w wr w' : World} {g : Nat} (h : ZG w wr) (hs : SetAt wr w' g) (hb : Below w.heap.size w w') (hne : w.heap.size ≠ g) : ZG w w' := by
  have e := hs.block w.heap.size hne
  refine ⟨hb, ?_, ?_, ?_, ?_, by rw [hs.size]; exact h.size⟩
  · have := h.c0; unfold World.cell? at this ⊢; simp only [e]; exact this
  · have := h.c1; unfold World.cell? at this ⊢; simp only [e]; exact this
  · have := h.f0; unfold World.frozen? at this ⊢; simp only [e]; exact this
  · have := h.f1; unfold World.frozen? at this ⊢; simp only [e]; exact this
set_option maxHeartbeats 1000000 in
theorem gaussOfW_any (a b : Int) (h1 : -64 ≤ a ∧ a ≤ 64) (h2 : -64 ≤ b ∧ b ≤ 64) (w : World) : Calls Try.prog 43 #[.complex .f32 (f32of a) (f32of b)] w (Ret w (.agg #[.int .i64 a, .int .i64 b])) := by
  have ha := fun w => run_convert_float_int (P := Try.prog) w 80 3 .f32 .i64 (f32of a) a rfl Try.underlying3 (f32_backw a h1)
  have hb := fun w => run_convert_float_int (P := Try.prog) w 80 3 .f32 .i64 (f32of b) b rfl Try.underlying3 (f32_backw b h2)
  obtain ⟨fa, hfa⟩ : ∃ fa, fa = f32of a := ⟨_, rfl⟩
  obtain ⟨fb, hfb⟩ : ∃ fb, fb = f32of b := ⟨_, rfl⟩
  rw [← hfa] at ha ⊢
  rw [← hfb] at hb ⊢
  clear hfa hfb h1 h2
  go_enter Try.func43, Try.ntmps43
  go_wp2
  go_returns
  exact ⟨rfl, by go_grown⟩
def exI (f : Int → Int) (M : Nat → Nat → Int) (i k : Nat) : Int := sumN (fun j => f (M i j)) k
def exO (f : Int → Int) (M : Nat → Nat → Int) (n k : Nat) : Int := sumN (fun i => exI f M i n) k
theorem exI_small (f : Int → Int) (hf : ∀ x, -1 ≤ f x ∧ f x ≤ 1) (M : Nat → Nat → Int) (i k : Nat) : -(k : Int) ≤ exI f M i k ∧ exI f M i k ≤ k := sumN_bound _ (fun _ => hf _) k
theorem exO_small (f : Int → Int) (hf : ∀ x, -1 ≤ f x ∧ f x ≤ 1) (M : Nat → Nat → Int) (n k : Nat) (hn : n ≤ 8) (hk : k ≤ n) : -(8 * k : Int) ≤ exO f M n k ∧ exO f M n k ≤ 8 * k := by
  have := sumN_le (fun i => exI f M i n) 8 n (fun i _ => by have := exI_small f hf M i n; omega) k hk
  exact this
set_option maxRecDepth 100000 in
set_option maxHeartbeats 4000000 in
theorem excess_any (V : Nat → Nat × Nat) (n : Nat) (M : Nat → Nat → Int) (hV : MxR V n M) (w : World) :
    Calls Try.prog 50 #[.agg (mxC V n)] w (Ret w (.complex .f32 (f32of (exO vx M n n)) (f32of (exO vy M n n)))) := by
  have hn := hV.1
  have HPH := Lib.hid (fun i j (hi : i < n) (hj : j < n) => hV.2.1 i j hi hj)
  have HXI := Lib.hid (fun i k => exI_small vx vx_one M i k)
  have HYI := Lib.hid (fun i k => exI_small vy vy_one M i k)
  have HXO := Lib.hid (fun k (hk : k ≤ n) => exO_small vx vx_one M n k hn hk)
  have HYO := Lib.hid (fun k (hk : k ≤ n) => exO_small vy vy_one M n k hn hk)
  obtain ⟨XI, hXI⟩ : ∃ X : Nat → Nat → Int, X = exI vx M := ⟨_, rfl⟩
  obtain ⟨YI, hYI⟩ : ∃ X : Nat → Nat → Int, X = exI vy M := ⟨_, rfl⟩
  obtain ⟨XO, hXO⟩ : ∃ X : Nat → Int, X = exO vx M n := ⟨_, rfl⟩
  obtain ⟨YO, hYO⟩ : ∃ X : Nat → Int, X = exO vy M n := ⟨_, rfl⟩
  have SXI := Lib.hid (fun i k => show XI i (k + 1) = XI i k + vx (M i k) by rw [hXI]; rfl)
  have SYI := Lib.hid (fun i k => show YI i (k + 1) = YI i k + vy (M i k) by rw [hYI]; rfl)
  have SXO := Lib.hid (fun k => show XO (k + 1) = XO k + XI k n by rw [hXO, hXI]; rfl)
  have SYO := Lib.hid (fun k => show YO (k + 1) = YO k + YI k n by rw [hYO, hYI]; rfl)
  have X0 := Lib.hid (show f32of (XO 0) = 0 by rw [hXO]; rfl)
  have Y0 := Lib.hid (show f32of (YO 0) = 0 by rw [hYO]; rfl)
  have ZI := Lib.hid (fun i => show XI i 0 = 0 by rw [hXI]; rfl)
  have ZJ := Lib.hid (fun i => show YI i 0 = 0 by rw [hYI]; rfl)
  rw [← hXI] at HXI
  rw [← hYI] at HYI
  rw [← hXO] at HXO ⊢
  rw [← hYO] at HYO ⊢
  clear hV hXI hYI hXO hYO
  have B0 := Lib.hid (Below.refl w.heap.size w)
  go_enter Try.func50, Try.ntmps50
  go_wp2_with ((with_reducible refine at_op (Op.box 55 (.tmp 0)) ?_); refine wpList_box_row rfl 55 (.tmp 0) rfl (mxC V n) rfl ?_; intro w1 hr hb hz; have R1_m := Lib.hid hr; have B1 := Lib.hid (joins B0.out hb); have L1_m := Lib.hid (show w.heap.size ≤ w.heap.size from B0.out.size); have c0 := rowC hr (mxC_side V n); clear hr hb hz)
  have RM0 := R1_m
  have BB0 := B1
  go_loopw [8, 3] (fun q s wr => ∃ a : Nat, a ≤ n ∧ q = .int .i64 a ∧ s = .complex .f32 (f32of (XO a)) (f32of (YO a)) ∧ wr.heap[w.heap.size]? = some (.cells (mxC V n) 55 (0, 0)) ∧ Below w.heap.size w wr) (fun q _ _ => n - (intOf q).toNat)
  case atStart => exact ⟨0, Nat.zero_le _, rfl, by rw [X0.out, Y0.out], RM0.out, BB0.out⟩
  case round =>
    obtain ⟨a, ha, rfl, rfl, hm, hbel⟩ := hrel
    have RM := Lib.hid hm
    have BR := Lib.hid hbel
    have c0 := rowC hm (mxC_side _ _)
    clear hm hbel
    generalize hwo : wr = wo at *
    clear hwo
    by_cases hlt : a < n
    · have h0 : (0 : Int) ≤ (a : Int) := by omega
      have h1 : (a : Int) < (n : Int) := by omega
      have e1 : XO a = XO a + XI a 0 := by rw [ZI.out]; omega
      have e2 : YO a = YO a + YI a 0 := by rw [ZJ.out]; omega
      have E1 := Lib.hid e1
      have E2 := Lib.hid e2
      clear e1 e2
      go_wp2_with fail
      go_loopw [13, 3] (fun q s wr => ∃ b : Nat, b ≤ n ∧ q = .int .i64 b ∧ s = .complex .f32 (f32of (XO a + XI a b)) (f32of (YO a + YI a b)) ∧ wr.heap[w.heap.size]? = some (.cells (mxC V n) 55 (0, 0)) ∧ Below w.heap.size w wr) (fun q _ _ => n - (intOf q).toNat)
      case atStart => exact ⟨0, Nat.zero_le _, rfl, by rw [← E1.out, ← E2.out], RM.out, BR.out⟩
      case round =>
        obtain ⟨b, hb, rfl, rfl, hm, hbel⟩ := hrel
        have RM2 := Lib.hid hm
        have BR2 := Lib.hid hbel
        have c0 := rowC hm (mxC_side _ _)
        clear hm hbel
        by_cases hlb : b < n
        · have h0b : (0 : Int) ≤ (b : Int) := by omega
          have h1b : (b : Int) < (n : Int) := by omega
          have h8a : (a : Int) < 8 := by omega
          have h8b : (b : Int) < 8 := by omega
          have cs := cell_row RM2.out (c := a * 8 + b) (by omega)
          obtain ⟨⟨u1, u2⟩, ⟨u3, u4⟩, -⟩ := HPH.out a b hlt hlb
          have b1 := HXI.out a b
          have b2 := HYI.out a b
          have b3 := HXO.out a ha
          have b4 := HYO.out a ha
          have s1 := SXI.out a b
          have s2 := SYI.out a b
          rw [← u3] at s1
          rw [← u4] at s2
          obtain ⟨x, hx⟩ : ∃ x, x = (V (a * 8 + b)).1 := ⟨_, rfl⟩
          obtain ⟨y, hy⟩ : ∃ x, x = (V (a * 8 + b)).2 := ⟨_, rfl⟩
          rw [← hx] at cs u1 s1
          rw [← hy] at cs u2 s2
          have hadd := fun w t => run_addv (P := Try.prog) w t (XO a + XI a b) (YO a + YI a b) x y (by omega) (by omega) u1 u2
          rw [show XO a + XI a b + valF x = XO a + XI a (b + 1) by rw [s1]; omega, show YO a + YI a b + valF y = YO a + YI a (b + 1) by rw [s2]; omega] at hadd
          obtain ⟨p1, hp1⟩ : ∃ x, x = f32of (XO a + XI a b) := ⟨_, rfl⟩
          obtain ⟨p2, hp2⟩ : ∃ x, x = f32of (YO a + YI a b) := ⟨_, rfl⟩
          obtain ⟨p3, hp3⟩ : ∃ x, x = f32of (XO a + XI a (b + 1)) := ⟨_, rfl⟩
          obtain ⟨p4, hp4⟩ : ∃ x, x = f32of (YO a + YI a (b + 1)) := ⟨_, rfl⟩
          rw [← hp1, ← hp2, ← hp3, ← hp4] at hadd
          rw [← hp1, ← hp2]
          have P3 := Lib.hid hp3
          have P4 := Lib.hid hp4
          clear b1 b2 b3 b4 s1 s2 u1 u2 u3 u4 hx hy hp1 hp2 hp3 hp4
          go_wp2_with fail
          go_roundw
          case rel => exact ⟨b + 1, by omega, by go_num, by rw [P3.out, P4.out], RM2.out, BR2.out⟩
          case measure => simp [intOf]; omega
        · obtain rfl : n = b := by omega
          go_wp2_with fail
          go_roundw
          case rel => exact ⟨a + 1, by omega, by go_num, by rw [SXO.out, SYO.out], RM2.out, BR2.out⟩
          case measure => simp [intOf]; omega
    · obtain rfl : n = a := by omega
      go_wp2_with fail
      go_returns
      exact ⟨rfl, BR.out⟩
theorem exO_exA {m : List (List Int)} (hm : maOk m = true) (f : Int → Int) : exO f (atM m) m.length m.length = exA f m := by
  unfold exA
  rw [hm, if_pos rfl]
  unfold exO exS
  refine sumN_ext _ _ _ (fun i hi => ?_)
  unfold exI exT
  have h := sumF_gen f (fun j => (m.getD i []).getD j 0) (m.getD i []).length
  rw [gen_self, maOk_sq hm i hi] at h
  rw [h]
  rfl
theorem exO_mf (m : List (List Int)) (f : Int → Int) : exO f (atM m) (mfN m) (mfN m) = exA f m := by
  cases hm : maOk m with
  | true => rw [show mfN m = m.length by unfold mfN; rw [hm]; rfl]; exact exO_exA hm f
  | false => rw [show mfN m = 0 by unfold mfN; rw [hm]; rfl]; unfold exA; rw [hm]; rfl
set_option maxRecDepth 100000 in
set_option maxHeartbeats 4000000 in
theorem iexcessOf (v : Value) (m : List (List Int)) (w : World) (hv : IR w v m) (hl : sz2 m ≤ 1048576) : Calls Try.prog 22 #[v] w (Ret w (.tuple #[.agg #[.int .i64 (exA vx m), .int .i64 (exA vy m)], .bool (maOk m)])) := by
  have HM := Lib.hid (fun w' (h : Below w.heap.size w w') => matrixFrom_any v m w' (hv.below h) hl)
  have hR := mf_MxR m
  have HE := excess_any (mfV m) (mfN m) _ hR
  have bx := exO_small vx vx_one (atM m) (mfN m) (mfN m) hR.1 (Nat.le_refl _)
  have by' := exO_small vy vy_one (atM m) (mfN m) (mfN m) hR.1 (Nat.le_refl _)
  have h8 := hR.1
  rw [exO_mf, exO_mf] at HE
  rw [exO_mf] at bx by'
  have HG := Lib.hid (gaussOfW_any (exA vx m) (exA vy m) (by omega) (by omega))
  have HIS := mxIs_any (mfV m) (mfN m)
  rw [mf_ok'] at HIS
  have HE' := Lib.hid HE
  have HIS' := Lib.hid HIS
  have ZZ := Lib.hid zeroMx
  have IC := Lib.hid (infoMxC (mfV m) (mfN m))
  have SC := Lib.hid (mxC_size (mfV m) (mfN m))
  have OC := Lib.hid (mxC_one (mfV m) (mfN m))
  obtain ⟨C, hC⟩ : ∃ C, C = mxC (mfV m) (mfN m) := ⟨_, rfl⟩
  obtain ⟨X, hX⟩ : ∃ X, X = exA vx m := ⟨_, rfl⟩
  obtain ⟨Y, hY⟩ : ∃ X, X = exA vy m := ⟨_, rfl⟩
  obtain ⟨fx, hfx⟩ : ∃ x, x = f32of X := ⟨_, rfl⟩
  obtain ⟨fy, hfy⟩ : ∃ x, x = f32of Y := ⟨_, rfl⟩
  obtain ⟨ok, hok⟩ : ∃ ok, ok = maOk m := ⟨_, rfl⟩
  rw [← hC] at HM HE' HIS' IC SC OC
  rw [← hX, ← hY] at HE' HG ⊢
  rw [← hfx, ← hfy] at HE' HG
  rw [← hok] at HIS' ⊢
  obtain ⟨pa, cap, rfl⟩ := hv.slice
  clear hv hR HE HIS bx by' h8 hC hX hY hfx hfy hok
  have B0 := Lib.hid (Below.refl w.heap.size w)
  go_enter Try.func22, Try.ntmps22
  go_wp2_with fail
  obtain ⟨w1, hw1⟩ : ∃ w1, w1 = w.alloc (.cells #[.int .i64 0, .int .i64 0] 28) := ⟨_, rfl⟩
  have Z1 := Lib.hid (show ZG w w1 by rw [hw1]; exact ZG.start w 28)
  rw [← hw1]
  clear hw1
  have B1 := Lib.hid Z1.out.below
  go_wp2_with fail
  refine (HM.out _ B1.out).mono ?_
  rintro e w2 ⟨rfl, hb⟩
  have F2_z := Lib.hid (Z1.out.step hb)
  have B2 := Lib.hid (joins B1.out hb)
  clear hb
  have NZ := Lib.hid (Nat.ne_of_lt F2_z.out.size)
  go_wp2_with (first
    | ((with_reducible refine at_op (d := some 4) (Op.alloc 55) ?_); refine wpList_alloc_row rfl 55 rfl (mxC V0 0) (fun w => ZZ.out w) ?_; intro w3 hr hb hz; have F3_z := Lib.hid (F2_z.out.step hb); have R3_c := Lib.hid hr; have B3 := Lib.hid (joins B2.out hb); have L3_c := Lib.hid (show w.heap.size ≤ w2.heap.size from B2.out.size); clear hr hb hz)
    | ((with_reducible refine at_op (Op.store 55 (.tmp 4) (.tmp 6)) ?_); refine wpList_put_row rfl 55 (.tmp 4) (.tmp 6) rfl (w2.heap.size) C rfl rfl 55 (mxC V0 0) R3_c.out 65 infoMx SC.out (mxC_size _ _) OC.out w.heap.size w B3.out L3_c.out ?_; intro w4 hr hs hb; have F4_z := Lib.hid (ZG.setAt F3_z.out hs hb NZ.out); have R4_c := Lib.hid hr; have B4 := Lib.hid hb; clear hr hs hb))
  have NCZ := Lib.hid (Ne.symm NZ.out)
  go_wp2_with fail
  refine wp_region_held_drew (S := (fun w' => World.grownBy w4 w' (some (w.heap.size)))) (by kernel_rfl) (grownDrew (World.grownBy.refl _ _)) ?_
  obtain ⟨w5, hdw⟩ : ∃ w', w' = w4.drew := ⟨_, rfl⟩
  rw [← hdw]
  have hb : Below w4.heap.size w4 w5 := by rw [hdw]; exact belowN (Below.refl _ _) 1
  have R5_c := Lib.hid (rowB R4_c.out hb)
  have F5_z := Lib.hid (F4_z.out.step hb)
  have B5 := Lib.hid (joins B4.out hb)
  clear hdw hb
  intro hHeld
  refine' wpAnyH_take (i := 0) (v := _) rfl (by kernel_rfl) (by kernel_rfl) (by kernel_rfl) (fun _ _ _ h => h) (yieldsPart (by rfl) 55 (.tmp 4) rfl (w2.heap.size) 0 rfl C C 55 (0, 0) _ (fun w h => (rowG R4_c.out h (fun e => NCZ.out (Option.some.inj e)))) (Part.self _) Try.underlying55 rfl IC.out) (by assumption) ?rest1
  (try simp only [Act.put, List.getElem_toArray, List.getElem_cons_zero, List.setIfInBounds_toArray, List.set_cons_zero, List.set_cons_succ])
  refine' wpAnyH_take (i := 3) (v := _) rfl (by kernel_rfl) (by kernel_rfl) (by kernel_rfl) (fun _ _ _ h => h) (yieldsPart (by rfl) 55 (.tmp 4) rfl (w2.heap.size) 0 rfl C C 55 (0, 0) _ (fun w h => (rowG R4_c.out h (fun e => NCZ.out (Option.some.inj e)))) (Part.self _) Try.underlying55 rfl IC.out) (by assumption) ?rest2
  (try simp only [Act.put, List.getElem_toArray, List.getElem_cons_zero, List.getElem_cons_succ, List.setIfInBounds_toArray, List.set_cons_zero, List.set_cons_succ])
  refine wpAnyH_ready (rs := [1]) (by kernel_rfl) (by simp) ?_
  refine AllReadyH.cons rfl (fun K hK => ?_) AllReadyH.nil
  go_simp
  refine (HE'.out _).mono ?_
  rintro e w6 ⟨rfl, hb⟩
  have R6_c := Lib.hid (rowB R5_c.out hb)
  have F6_z := Lib.hid (F5_z.out.step hb)
  have B6 := Lib.hid (joins B5.out hb)
  have hHeld := grownB hHeld hb
  clear hb
  refine hK.out _ _ hHeld (fun hHeld => ?_)
  clear hK K
  (try simp only [Act.put, List.getElem_toArray, List.getElem_cons_zero, List.getElem_cons_succ, List.setIfInBounds_toArray, List.set_cons_zero, List.set_cons_succ])
  refine wpAnyH_ready (rs := [2]) (by kernel_rfl) (by simp) ?_
  refine AllReadyH.cons rfl (fun K hK => ?_) AllReadyH.nil
  go_simp
  refine (HG.out _).mono ?_
  rintro e w7 ⟨rfl, hb⟩
  have R7_c := Lib.hid (rowB R6_c.out hb)
  have F7_z := Lib.hid (F6_z.out.step hb)
  have B7 := Lib.hid (joins B6.out hb)
  have hHeld := grownB hHeld hb
  clear hb
  refine hK.out _ _ hHeld (fun hHeld => ?_)
  clear hK K
  (try simp only [Act.put, List.getElem_toArray, List.getElem_cons_zero, List.getElem_cons_succ, List.setIfInBounds_toArray, List.set_cons_zero, List.set_cons_succ])
  refine wpAnyH_ready (rs := [4]) (by kernel_rfl) (by simp) ?_
  refine AllReadyH.cons rfl (fun K hK => ?_) AllReadyH.nil
  go_simp
  refine (HIS'.out _).mono ?_
  rintro e w8 ⟨rfl, hb⟩
  have R8_c := Lib.hid (rowB R7_c.out hb)
  have F8_z := Lib.hid (F7_z.out.step hb)
  have B8 := Lib.hid (joins B7.out hb)
  have hHeld := grownB hHeld hb
  clear hb
  refine hK.out _ _ hHeld (fun hHeld => ?_)
  clear hK K
  (try simp only [Act.put, List.getElem_toArray, List.getElem_cons_zero, List.getElem_cons_succ, List.setIfInBounds_toArray, List.set_cons_zero, List.set_cons_succ])
  refine wpAnyH_ready (rs := [5]) (by kernel_rfl) (by simp) ?_
  refine AllReadyH.cons rfl (fun K hK => ?_) AllReadyH.nil
  obtain ⟨z1, z2, z3, z4, z5, z6⟩ := F8_z.out
  go_simp
  refine hK.out _ _ (grownCell' (grownCell' hHeld _ _) _ _) (fun hHeld => ?_)
  clear hK K
  (try simp only [Act.put])
  refine' wpAnyH_take (i := 6) (v := _) rfl (by kernel_rfl) (by kernel_rfl) (by kernel_rfl) (fun _ _ _ h => h) (Or.inl ⟨by rfl, ?hy3⟩) (by assumption) ?rest3
  case hy3 =>
    intro w h
    (try clear h)
    go_simp
    (try with_reducible rfl)
  (try simp only [Act.put, List.getElem_toArray, List.getElem_cons_zero, List.getElem_cons_succ, List.setIfInBounds_toArray, List.set_cons_zero, List.set_cons_succ])
  refine wpAnyH_done (by kernel_rfl) ?_ _
  go_wp2_with fail
  (try simp only [Exit.inBlock, Exit.then])
  obtain ⟨d0, d2, d3⟩ := F8_z.out.ret (.int .i64 X) (.int .i64 Y)
  refine bodyPost_ret (by simp [results, Try.results22, go_sem, d0, d2]; try rfl) rfl ?_
  exact ⟨rfl, d3⟩
theorem maRow_inB' (m : List (List Int)) (i : Int) : inB i 0 ((mfN m : Nat) - 1 : Int) = maRow m i := by
  unfold maRow mfN
  cases h : maOk m with
  | true => simp
  | false =>
    rw [Bool.false_and]
    unfold inB
    simp
    omega
theorem maRow_parts' {m : List (List Int)} {i : Int} (h : maRow m i = true) : maOk m = true ∧ 0 ≤ i ∧ i.toNat < m.length := by
  unfold maRow inB at h
  simp only [Bool.and_eq_true, decide_eq_true_eq] at h
  exact ⟨h.1, h.2.1, by omega⟩
set_option maxRecDepth 100000 in
set_option maxHeartbeats 4000000 in
theorem iinnerOf (v : Value) (m : List (List Int)) (i j : Int) (w : World) (hv : IR w v m) (hl : sz2 m ≤ 1048576) : Calls Try.prog 17 #[v, .int .i64 i, .int .i64 j] w (Ret w (.tuple #[.agg #[.int .i64 (inF vx m i j), .int .i64 (inF vy m i j)], .bool (inOk m i j)])) := by
  have HM := Lib.hid (fun w' (h : Below w.heap.size w w') => matrixFrom_any v m w' (hv.below h) hl)
  have hR := mf_MxR m
  have HH := Lib.hid (hasIndex_any (mfV m) (mfN m) i)
  have HJ := Lib.hid (hasIndex_any (mfV m) (mfN m) j)
  rw [maRow_inB'] at HH HJ
  have ZZ := Lib.hid zeroMx
  have IC := Lib.hid (infoMxC (mfV m) (mfN m))
  have SC := Lib.hid (mxC_size (mfV m) (mfN m))
  have OC := Lib.hid (mxC_one (mfV m) (mfN m))
  obtain ⟨C, hC⟩ : ∃ C, C = mxC (mfV m) (mfN m) := ⟨_, rfl⟩
  obtain ⟨pa, cap, rfl⟩ := hv.slice
  clear hv
  cases hok : inOk m i j with
  | true =>
    have hok1 := hok
    unfold inOk at hok1
    rw [Bool.and_eq_true] at hok1
    rw [hok1.1] at HH
    rw [hok1.2] at HJ
    obtain ⟨hm, hi0, hi1⟩ := maRow_parts' hok1.1
    obtain ⟨-, hj0, hj1⟩ := maRow_parts' hok1.2
    have hN : mfN m = m.length := by unfold mfN; rw [hm]; rfl
    have h8 := maOk_le hm
    obtain ⟨a, rfl⟩ := Int.eq_ofNat_of_zero_le hi0
    obtain ⟨b, rfl⟩ := Int.eq_ofNat_of_zero_le hj0
    rw [Int.toNat_natCast] at hi1 hj1
    have eX : inF vx m a b = ipS vx (atM m a) (atM m b) (mfN m) := by unfold inF; rw [hok, if_pos rfl, Int.toNat_natCast, Int.toNat_natCast, inS_ip hm vx a b hi1 hj1, hN]
    have eY : inF vy m a b = ipS vy (atM m a) (atM m b) (mfN m) := by unfold inF; rw [hok, if_pos rfl, Int.toNat_natCast, Int.toNat_natCast, inS_ip hm vy a b hi1 hj1, hN]
    have bx := ipS_small vx vx_one (atM m a) (atM m b) (mfN m) 8 (Nat.le_refl _)
    have by' := ipS_small vy vy_one (atM m a) (atM m b) (mfN m) 8 (Nat.le_refl _)
    have HIN := inner_any _ _ (mfN m) _ _ (hR.row a (by rw [hN]; exact hi1)) (hR.row b (by rw [hN]; exact hj1))
    have HG := gaussOfW_any (ipS vx (atM m a) (atM m b) (mfN m)) (ipS vy (atM m a) (atM m b) (mfN m)) (by unfold ipS; omega) (by unfold ipS; omega)
    rw [← eX, ← eY] at HIN HG
    have PA := Lib.hid (mxC_row (mfV m) (mfN m) (a * 8) (by omega))
    have PB := Lib.hid (mxC_row (mfV m) (mfN m) (b * 8) (by omega))
    obtain ⟨U1, hU1⟩ : ∃ U : Nat → Nat × Nat, U = fun c => mfV m (a * 8 + c) := ⟨_, rfl⟩
    obtain ⟨U2, hU2⟩ : ∃ U : Nat → Nat × Nat, U = fun c => mfV m (b * 8 + c) := ⟨_, rfl⟩
    rw [← hU1] at PA HIN
    rw [← hU2] at PB HIN
    have HIN' := Lib.hid HIN
    have HG' := Lib.hid HG
    have I1 := Lib.hid (infoRvC U1)
    have I2 := Lib.hid (infoRvC U2)
    obtain ⟨X, hX⟩ : ∃ X, X = inF vx m a b := ⟨_, rfl⟩
    obtain ⟨Y, hY⟩ : ∃ X, X = inF vy m a b := ⟨_, rfl⟩
    obtain ⟨fx, hfx⟩ : ∃ x, x = f32of X := ⟨_, rfl⟩
    obtain ⟨fy, hfy⟩ : ∃ x, x = f32of Y := ⟨_, rfl⟩
    rw [← hC] at HM IC SC OC HH HJ PA PB
    rw [← hX, ← hY] at HIN' HG' ⊢
    rw [← hfx, ← hfy] at HIN' HG'
    have h1a : (a : Int) < 8 := by omega
    have h1b : (b : Int) < 8 := by omega
    clear hR HIN HG eX eY bx by' hC hX hY hfx hfy hok hok1 hm hN hU1 hU2 h8
    have B0 := Lib.hid (Below.refl w.heap.size w)
    go_enter Try.func17, Try.ntmps17
    go_wp2_with fail
    obtain ⟨w1, hw1⟩ : ∃ w1, w1 = w.alloc (.cells #[.int .i64 0, .int .i64 0] 28) := ⟨_, rfl⟩
    have Z1 := Lib.hid (show ZG w w1 by rw [hw1]; exact ZG.start w 28)
    rw [← hw1]
    clear hw1
    have B1 := Lib.hid Z1.out.below
    go_wp2_with fail
    refine (HM.out _ B1.out).mono ?_
    rintro e w2 ⟨rfl, hb⟩
    have F2_z := Lib.hid (Z1.out.step hb)
    have B2 := Lib.hid (joins B1.out hb)
    clear hb
    have NZ := Lib.hid (Nat.ne_of_lt F2_z.out.size)
    go_wp2_with (first
      | ((with_reducible refine at_op (d := some 8) (Op.alloc 55) ?_); refine wpList_alloc_row rfl 55 rfl (mxC V0 0) (fun w => ZZ.out w) ?_; intro w3 hr hb hz; have F3_z := Lib.hid (F2_z.out.step hb); have R3_c := Lib.hid hr; have B3 := Lib.hid (joins B2.out hb); have L3_c := Lib.hid (show w.heap.size ≤ w2.heap.size from B2.out.size); clear hr hb hz)
      | ((with_reducible refine at_op (Op.store 55 (.tmp 8) (.tmp 10)) ?_); refine wpList_put_row rfl 55 (.tmp 8) (.tmp 10) rfl (w2.heap.size) C rfl rfl 55 (mxC V0 0) R3_c.out 65 infoMx SC.out (mxC_size _ _) OC.out w.heap.size w B3.out L3_c.out ?_; intro w4 hr hs hb; have F4_z := Lib.hid (ZG.setAt F3_z.out hs hb NZ.out); have R4_c := Lib.hid hr; have B4 := Lib.hid hb; clear hr hs hb)
      | ((with_reducible refine at_op (Op.load 55 (.tmp 8)) ?_); refine wpList_load_part rfl 55 (.tmp 8) rfl (w2.heap.size) 0 rfl C C 55 (0, 0) _ R4_c.out (Part.self _) Try.underlying55 rfl IC.out ?_))
    refine (HH.out _).mono ?_
    rintro e w5 ⟨rfl, hb⟩
    have R5_c := Lib.hid (rowB R4_c.out hb)
    have F5_z := Lib.hid (F4_z.out.step hb)
    have B5 := Lib.hid (joins B4.out hb)
    clear hb
    go_wp2_with ((with_reducible refine at_op (Op.load 55 (.tmp 8)) ?_); refine wpList_load_part_w (by rfl) 55 (.tmp 8) rfl (w2.heap.size) 0 rfl C C 55 (0, 0) _ R5_c.out (Part.self _) Try.underlying55 rfl IC.out ?_)
    refine (HJ.out _).mono ?_
    rintro e w6 ⟨rfl, hb⟩
    have R6_c := Lib.hid (rowB R5_c.out hb)
    have F6_z := Lib.hid (F5_z.out.step hb)
    have B6 := Lib.hid (joins B5.out hb)
    clear hb
    have NCZ := Lib.hid (Ne.symm NZ.out)
    go_wp2_with fail
    go_wp2_with fail
    refine wp_region_held_drew (S := (fun w' => World.grownBy w6 w' (some (w.heap.size)))) (by kernel_rfl) (grownDrew (World.grownBy.refl _ _)) ?_
    obtain ⟨w7, hdw⟩ : ∃ w', w' = w6.drew := ⟨_, rfl⟩
    rw [← hdw]
    have hb : Below w6.heap.size w6 w7 := by rw [hdw]; exact belowN (Below.refl _ _) 1
    have R7_c := Lib.hid (rowB R6_c.out hb)
    have F7_z := Lib.hid (F6_z.out.step hb)
    have B7 := Lib.hid (joins B6.out hb)
    clear hdw hb
    intro hHeld
    refine' wpAnyH_take (i := 0) (v := _) rfl (by kernel_rfl) (by kernel_rfl) (by kernel_rfl) (fun _ _ _ h => h) (Or.inl ⟨by rfl, ?hy4⟩) (by assumption) ?rest4
    case hy4 =>
      intro w h
      (try clear h)
      go_simp
      (try with_reducible rfl)
    (try simp only [Act.put, List.getElem_toArray, List.getElem_cons_zero, List.setIfInBounds_toArray, List.set_cons_zero, List.set_cons_succ])
    refine' wpAnyH_take (i := 1) (v := _) rfl (by kernel_rfl) (by kernel_rfl) (by kernel_rfl) (fun _ _ _ h => h) (Or.inl ⟨by rfl, ?hy5⟩) (by assumption) ?rest5
    case hy5 =>
      intro w h
      (try clear h)
      go_simp
      (try with_reducible rfl)
    (try simp only [Act.put, List.getElem_toArray, List.getElem_cons_zero, List.getElem_cons_succ, List.setIfInBounds_toArray, List.set_cons_zero, List.set_cons_succ])
    refine' wpAnyH_take (i := 2) (v := _) rfl (by kernel_rfl) (by kernel_rfl) (by kernel_rfl) (fun _ _ _ h => h) (Or.inl ⟨by rfl, ?hy6⟩) (by assumption) ?rest6
    case hy6 =>
      intro w h
      (try clear h)
      go_simp
      (try with_reducible rfl)
    (try simp only [Act.put, List.getElem_toArray, List.getElem_cons_zero, List.getElem_cons_succ, List.setIfInBounds_toArray, List.set_cons_zero, List.set_cons_succ])
    refine' wpAnyH_take (i := 3) (v := _) rfl (by kernel_rfl) (by kernel_rfl) (by kernel_rfl) (fun _ _ _ h => h) (yieldsPart (by rfl) 51 (.tmp 24) rfl (w2.heap.size) (a * 8) rfl C (rvC U1 8) 55 (0, 0) _ (fun w h => (rowG R6_c.out h (fun e => NCZ.out (Option.some.inj e)))) PA.out Try.underlying51 rfl I1.out) (by assumption) ?rest7
    (try simp only [Act.put, List.getElem_toArray, List.getElem_cons_zero, List.getElem_cons_succ, List.setIfInBounds_toArray, List.set_cons_zero, List.set_cons_succ])
    refine' wpAnyH_take (i := 4) (v := _) rfl (by kernel_rfl) (by kernel_rfl) (by kernel_rfl) (fun _ _ _ h => h) (Or.inl ⟨by rfl, ?hy8⟩) (by assumption) ?rest8
    case hy8 =>
      intro w h
      (try clear h)
      go_simp
      (try with_reducible rfl)
    (try simp only [Act.put, List.getElem_toArray, List.getElem_cons_zero, List.getElem_cons_succ, List.setIfInBounds_toArray, List.set_cons_zero, List.set_cons_succ])
    refine' wpAnyH_take (i := 5) (v := _) rfl (by kernel_rfl) (by kernel_rfl) (by kernel_rfl) (fun _ _ _ h => h) (Or.inl ⟨by rfl, ?hy9⟩) (by assumption) ?rest9
    case hy9 =>
      intro w h
      (try clear h)
      go_simp
      (try with_reducible rfl)
    (try simp only [Act.put, List.getElem_toArray, List.getElem_cons_zero, List.getElem_cons_succ, List.setIfInBounds_toArray, List.set_cons_zero, List.set_cons_succ])
    refine' wpAnyH_take (i := 6) (v := _) rfl (by kernel_rfl) (by kernel_rfl) (by kernel_rfl) (fun _ _ _ h => h) (Or.inl ⟨by rfl, ?hy10⟩) (by assumption) ?rest10
    case hy10 =>
      intro w h
      (try clear h)
      go_simp
      (try with_reducible rfl)
    (try simp only [Act.put, List.getElem_toArray, List.getElem_cons_zero, List.getElem_cons_succ, List.setIfInBounds_toArray, List.set_cons_zero, List.set_cons_succ])
    refine' wpAnyH_take (i := 7) (v := _) rfl (by kernel_rfl) (by kernel_rfl) (by kernel_rfl) (fun _ _ _ h => h) (yieldsPart (by rfl) 51 (.tmp 28) rfl (w2.heap.size) (b * 8) rfl C (rvC U2 8) 55 (0, 0) _ (fun w h => (rowG R6_c.out h (fun e => NCZ.out (Option.some.inj e)))) PB.out Try.underlying51 rfl I2.out) (by assumption) ?rest11
    (try simp only [Act.put, List.getElem_toArray, List.getElem_cons_zero, List.getElem_cons_succ, List.setIfInBounds_toArray, List.set_cons_zero, List.set_cons_succ])
    refine wpAnyH_ready (rs := [8]) (by kernel_rfl) (by simp) ?_
    refine AllReadyH.cons rfl (fun K hK => ?_) AllReadyH.nil
    go_simp
    refine (HIN'.out _).mono ?_
    rintro e w8 ⟨rfl, hb⟩
    have R8_c := Lib.hid (rowB R7_c.out hb)
    have F8_z := Lib.hid (F7_z.out.step hb)
    have B8 := Lib.hid (joins B7.out hb)
    have hHeld := grownB hHeld hb
    clear hb
    refine hK.out _ _ hHeld (fun hHeld => ?_)
    clear hK K
    (try simp only [Act.put, List.getElem_toArray, List.getElem_cons_zero, List.getElem_cons_succ, List.setIfInBounds_toArray, List.set_cons_zero, List.set_cons_succ])
    refine wpAnyH_ready (rs := [9]) (by kernel_rfl) (by simp) ?_
    refine AllReadyH.cons rfl (fun K hK => ?_) AllReadyH.nil
    go_simp
    refine (HG'.out _).mono ?_
    rintro e w9 ⟨rfl, hb⟩
    have R9_c := Lib.hid (rowB R8_c.out hb)
    have F9_z := Lib.hid (F8_z.out.step hb)
    have B9 := Lib.hid (joins B8.out hb)
    have hHeld := grownB hHeld hb
    clear hb
    refine hK.out _ _ hHeld (fun hHeld => ?_)
    clear hK K
    (try simp only [Act.put, List.getElem_toArray, List.getElem_cons_zero, List.getElem_cons_succ, List.setIfInBounds_toArray, List.set_cons_zero, List.set_cons_succ])
    refine wpAnyH_ready (rs := [10]) (by kernel_rfl) (by simp) ?_
    refine AllReadyH.cons rfl (fun K hK => ?_) AllReadyH.nil
    obtain ⟨z1, z2, z3, z4, z5, z6⟩ := F9_z.out
    go_simp
    refine hK.out _ _ (grownCell' (grownCell' hHeld _ _) _ _) (fun hHeld => ?_)
    clear hK K
    (try simp only [Act.put])
    refine' wpAnyH_take (i := 11) (v := _) rfl (by kernel_rfl) (by kernel_rfl) (by kernel_rfl) (fun _ _ _ h => h) (Or.inl ⟨by rfl, ?hy12⟩) (by assumption) ?rest12
    case hy12 =>
      intro w h
      (try clear h)
      go_simp
      (try with_reducible rfl)
    (try simp only [Act.put, List.getElem_toArray, List.getElem_cons_zero, List.getElem_cons_succ, List.setIfInBounds_toArray, List.set_cons_zero, List.set_cons_succ])
    refine wpAnyH_done (by kernel_rfl) ?_ _
    go_wp2_with fail
    (try simp only [Exit.inBlock, Exit.then])
    obtain ⟨d0, d2, d3⟩ := F9_z.out.ret (.int .i64 X) (.int .i64 Y)
    refine bodyPost_ret (by simp [results, Try.results17, go_sem, d0, d2]; try rfl) rfl ?_
    exact ⟨rfl, d3⟩
  | false =>
    have hX : inF vx m i j = 0 := by unfold inF; rw [hok]; rfl
    have hY : inF vy m i j = 0 := by unfold inF; rw [hok]; rfl
    rw [hX, hY]
    unfold inOk at hok
    rw [← hC] at HM IC SC OC HH HJ
    clear hR hC hX hY
    cases hr : maRow m i with
    | false =>
      rw [hr] at HH
      clear hr hok HJ
      have B0 := Lib.hid (Below.refl w.heap.size w)
      go_enter Try.func17, Try.ntmps17
      go_wp2_with fail
      obtain ⟨w1, hw1⟩ : ∃ w1, w1 = w.alloc (.cells #[.int .i64 0, .int .i64 0] 28) := ⟨_, rfl⟩
      have Z1 := Lib.hid (show ZG w w1 by rw [hw1]; exact ZG.start w 28)
      rw [← hw1]
      clear hw1
      have B1 := Lib.hid Z1.out.below
      go_wp2_with fail
      refine (HM.out _ B1.out).mono ?_
      rintro e w2 ⟨rfl, hb⟩
      have F2_z := Lib.hid (Z1.out.step hb)
      have B2 := Lib.hid (joins B1.out hb)
      clear hb
      have NZ := Lib.hid (Nat.ne_of_lt F2_z.out.size)
      go_wp2_with (first
        | ((with_reducible refine at_op (d := some 8) (Op.alloc 55) ?_); refine wpList_alloc_row rfl 55 rfl (mxC V0 0) (fun w => ZZ.out w) ?_; intro w3 hr hb hz; have F3_z := Lib.hid (F2_z.out.step hb); have R3_c := Lib.hid hr; have B3 := Lib.hid (joins B2.out hb); have L3_c := Lib.hid (show w.heap.size ≤ w2.heap.size from B2.out.size); clear hr hb hz)
        | ((with_reducible refine at_op (Op.store 55 (.tmp 8) (.tmp 10)) ?_); refine wpList_put_row rfl 55 (.tmp 8) (.tmp 10) rfl (w2.heap.size) C rfl rfl 55 (mxC V0 0) R3_c.out 65 infoMx SC.out (mxC_size _ _) OC.out w.heap.size w B3.out L3_c.out ?_; intro w4 hr hs hb; have F4_z := Lib.hid (ZG.setAt F3_z.out hs hb NZ.out); have R4_c := Lib.hid hr; have B4 := Lib.hid hb; clear hr hs hb)
        | ((with_reducible refine at_op (Op.load 55 (.tmp 8)) ?_); refine wpList_load_part rfl 55 (.tmp 8) rfl (w2.heap.size) 0 rfl C C 55 (0, 0) _ R4_c.out (Part.self _) Try.underlying55 rfl IC.out ?_))
      refine (HH.out _).mono ?_
      rintro e w5 ⟨rfl, hb⟩
      have R5_c := Lib.hid (rowB R4_c.out hb)
      have F5_z := Lib.hid (F4_z.out.step hb)
      have B5 := Lib.hid (joins B4.out hb)
      clear hb
      obtain ⟨z1, z2, z3, z4, z5, z6⟩ := F5_z.out
      go_wp2_with fail
      (try simp only [Exit.inBlock, Exit.then])
      obtain ⟨d0, d2, d3⟩ := F5_z.out.ret (.int .i64 0) (.int .i64 0)
      refine bodyPost_ret (by simp [results, Try.results17, go_sem, d0, d2]; try rfl) rfl ?_
      exact ⟨rfl, d3⟩
    | true =>
      rw [hr] at HH
      rw [hr, Bool.true_and] at hok
      rw [hok] at HJ
      clear hr hok
      have B0 := Lib.hid (Below.refl w.heap.size w)
      go_enter Try.func17, Try.ntmps17
      go_wp2_with fail
      obtain ⟨w1, hw1⟩ : ∃ w1, w1 = w.alloc (.cells #[.int .i64 0, .int .i64 0] 28) := ⟨_, rfl⟩
      have Z1 := Lib.hid (show ZG w w1 by rw [hw1]; exact ZG.start w 28)
      rw [← hw1]
      clear hw1
      have B1 := Lib.hid Z1.out.below
      go_wp2_with fail
      refine (HM.out _ B1.out).mono ?_
      rintro e w2 ⟨rfl, hb⟩
      have F2_z := Lib.hid (Z1.out.step hb)
      have B2 := Lib.hid (joins B1.out hb)
      clear hb
      have NZ := Lib.hid (Nat.ne_of_lt F2_z.out.size)
      go_wp2_with (first
        | ((with_reducible refine at_op (d := some 8) (Op.alloc 55) ?_); refine wpList_alloc_row rfl 55 rfl (mxC V0 0) (fun w => ZZ.out w) ?_; intro w3 hr hb hz; have F3_z := Lib.hid (F2_z.out.step hb); have R3_c := Lib.hid hr; have B3 := Lib.hid (joins B2.out hb); have L3_c := Lib.hid (show w.heap.size ≤ w2.heap.size from B2.out.size); clear hr hb hz)
        | ((with_reducible refine at_op (Op.store 55 (.tmp 8) (.tmp 10)) ?_); refine wpList_put_row rfl 55 (.tmp 8) (.tmp 10) rfl (w2.heap.size) C rfl rfl 55 (mxC V0 0) R3_c.out 65 infoMx SC.out (mxC_size _ _) OC.out w.heap.size w B3.out L3_c.out ?_; intro w4 hr hs hb; have F4_z := Lib.hid (ZG.setAt F3_z.out hs hb NZ.out); have R4_c := Lib.hid hr; have B4 := Lib.hid hb; clear hr hs hb)
        | ((with_reducible refine at_op (Op.load 55 (.tmp 8)) ?_); refine wpList_load_part rfl 55 (.tmp 8) rfl (w2.heap.size) 0 rfl C C 55 (0, 0) _ R4_c.out (Part.self _) Try.underlying55 rfl IC.out ?_))
      refine (HH.out _).mono ?_
      rintro e w5 ⟨rfl, hb⟩
      have R5_c := Lib.hid (rowB R4_c.out hb)
      have F5_z := Lib.hid (F4_z.out.step hb)
      have B5 := Lib.hid (joins B4.out hb)
      clear hb
      go_wp2_with ((with_reducible refine at_op (Op.load 55 (.tmp 8)) ?_); refine wpList_load_part_w (by rfl) 55 (.tmp 8) rfl (w2.heap.size) 0 rfl C C 55 (0, 0) _ R5_c.out (Part.self _) Try.underlying55 rfl IC.out ?_)
      refine (HJ.out _).mono ?_
      rintro e w6 ⟨rfl, hb⟩
      have R6_c := Lib.hid (rowB R5_c.out hb)
      have F6_z := Lib.hid (F5_z.out.step hb)
      have B6 := Lib.hid (joins B5.out hb)
      clear hb
      obtain ⟨z1, z2, z3, z4, z5, z6⟩ := F6_z.out
      go_wp2_with fail
      (try simp only [Exit.inBlock, Exit.then])
      obtain ⟨d0, d2, d3⟩ := F6_z.out.ret (.int .i64 0) (.int .i64 0)
      refine bodyPost_ret (by simp [results, Try.results17, go_sem, d0, d2]; try rfl) rfl ?_
      exact ⟨rfl, d3⟩
end Go.Proofs.Ytbppbkoppbnodab
