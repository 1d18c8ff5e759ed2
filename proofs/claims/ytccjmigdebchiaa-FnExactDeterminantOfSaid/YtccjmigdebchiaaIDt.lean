/- The program's determinantFrom. -/
import Derived.Test.YtccjmigdebchiaaDeF
import Derived.Test.YtccjmigdebchiaaDeM
import Derived.Test.YtccjmigdebchiaaIMx
import Derived.Test.YtccjmigdebchiaaMxP
namespace Go.Proofs.Ytccjmigdebchiaa
set_option maxRecDepth 100000
open Go.RowKit

/-- Eight truth values. -/
def boC (T : Nat → Bool) : Array Value := ((List.range 8).map (fun c => Value.bool (T c))).toArray
theorem boC_size (T : Nat → Bool) : (boC T).size = 8 := by simp [boC]
theorem boC_get (T : Nat → Bool) (c : Nat) (h : c < 8) : (boC T)[c]? = some (.bool (T c)) := by simp [boC, h]
theorem boC_ext (T U : Nat → Bool) (h : ∀ c, c < 8 → T c = U c) : boC T = boC U := by
  unfold boC
  congr 1
  exact List.map_congr_left (fun c hc => by rw [h c (List.mem_range.1 hc)])
theorem boC_set (T : Nat → Bool) (j : Nat) (h : j < 8) (b : Bool) : (boC T).setIfInBounds j (.bool b) = boC (fun c => if c = j then b else T c) := by
  apply Array.ext_getElem?
  intro c
  by_cases hc : c < 8
  · rw [boC_get _ _ hc, Array.getElem?_setIfInBounds, boC_size]
    by_cases e : j = c
    · subst e; rw [if_pos rfl, if_pos h]; simp
    · rw [if_neg e, boC_get _ _ hc]; simp [Ne.symm e]
  · rw [Array.getElem?_eq_none (by simp [boC_size]; omega), Array.getElem?_eq_none (by rw [boC_size]; omega)]
theorem infoBo : (Try.prog.info? 58).map (·.size) = some 8 := by kernel_rfl
theorem infoBoC (T : Nat → Bool) : (Try.prog.info? 58).map (·.size) = some (boC T).size := by rw [boC_size]; exact infoBo
theorem cell_bo {w : World} {g c : Nat} {T : Nat → Bool} {t : TypeId} (h : w.heap[g]? = some (.cells (boC T) t (0, 0))) (hc : c < 8) : w.cell? ⟨g, c, none⟩ = some (.bool (T c)) := rowC h (boC_get T c hc)
theorem set_bo {w : World} {g c : Nat} {T : Nat → Bool} {t : TypeId} (h : w.heap[g]? = some (.cells (boC T) t (0, 0))) (hc : c < 8) (b : Bool) :
    (w.setCell ⟨g, c, none⟩ (.bool b)).heap[g]? = some (.cells (boC (fun d => if d = c then b else T d)) t (0, 0)) := by
  have := heap_setCell_same w g c _ _ (.bool b) h
  rwa [boC_set T c hc b] at this
theorem run_negc (w : World) (a b : Nat) : (Op.unary .neg (.complex .f32 a b)).run Try.prog w = .ok (.complex .f32 (f32neg a) (f32neg b)) w := by
  have h : (2 : Nat) ^ (FloatKind.f32.format.exponentBits + FloatKind.f32.format.fractionBits) = 2147483648 := by decide
  simp [Op.unary, Op.negFloat, f32neg, h]
theorem tk_back (T : Nat → Bool) (a : Nat) (h : T a = false) : (fun d => if d = a then false else tkC T a d) = T := by
  funext d
  by_cases e : d = a
  · subst e; rw [if_pos rfl, h]
  · rw [if_neg e]; unfold tkC; rw [if_neg e]
set_option maxRecDepth 100000 in
set_option maxHeartbeats 2000000 in
theorem determinantFrom_any (V : Nat → Nat × Nat) (n : Nat) (M : Nat → Nat → Int) (hV : MxR V n M) (hn : n ≤ 5) : ∀ (d : Nat) (T : Nat → Bool) (i : Nat), i + d = n → (freeC T n).length = d → ∀ w,
    Calls Try.prog 29 #[.agg (mxC V n), .int .i64 i, .agg (boC T)] w (Ret w (.complex .f32 (f32of (dt M d i (freeC T n)).1) (f32of (dt M d i (freeC T n)).2))) := by
  intro d
  induction d with
  | zero =>
    intro T i hi _ w
    obtain rfl : i = n := by omega
    have e1 : f32of (dt M 0 i (freeC T i)).1 = 1065353216 := by show f32of 1 = _; decide
    have e2 : f32of (dt M 0 i (freeC T i)).2 = 0 := by show f32of 0 = _; decide
    rw [e1, e2]
    clear e1 e2 hV
    have B0 := Lib.hid (Below.refl w.heap.size w)
    go_enter Try.func29, Try.ntmps29
    go_wp2_with (first
      | ((with_reducible refine at_op (Op.box 53 (.tmp 0)) ?_); refine wpList_box_row rfl 53 (.tmp 0) rfl (mxC V i) rfl ?_; intro w1 hr hb hz; have R1_m := Lib.hid hr; have B1 := Lib.hid (joins B0.out hb); have L1_m := Lib.hid (show w.heap.size ≤ w.heap.size from B0.out.size); have c0 := rowC hr (mxC_side V i); clear hr hb hz)
      | ((with_reducible refine at_op (Op.box 58 (.tmp 2)) ?_); refine wpList_box_row rfl 58 (.tmp 2) rfl (boC T) rfl ?_; intro w2 hr hb hz; have N2_m_t := Lib.hid (Nat.ne_of_lt (row_lt R1_m.out)); have N2_t_m := Lib.hid (Ne.symm N2_m_t.out); have R2_m := Lib.hid (rowB R1_m.out hb); have R2_t := Lib.hid hr; have B2 := Lib.hid (joins B1.out hb); have L2_t := Lib.hid (show w.heap.size ≤ w1.heap.size from B1.out.size); have c0 := rowC R2_m.out (mxC_side V i); clear hr hb hz))
    go_returns
    exact ⟨rfl, B2.out⟩
  | succ d ih =>
    intro T i hi hT w
    have hin : i < n := by omega
    have hne : ¬ (i : Int) = (n : Int) := by omega
    have f4 := fac_four d (by omega)
    obtain ⟨L, hL⟩ : ∃ L : Nat → Nat, L = fun a => (freeC T a).length := ⟨_, rfl⟩
    have L0 : L 0 = 0 := by rw [hL]; rfl
    have LY := Lib.hid (fun a (h : T a = true) => show L (a + 1) = L a by rw [hL]; simp only [freeC_yes T a h])
    have LN := Lib.hid (fun a (h : T a = false) => show L (a + 1) = L a + 1 by rw [hL]; simp only [freeC_no T a h, List.length_append, List.length_singleton])
    have Ln := Lib.hid (show L n = d + 1 by rw [hL]; exact hT)
    have LB := Lib.hid (fun a (ha : a < n) (h : T a = false) => show L a < d + 1 by rw [hL]; have := (free_at T a n h ha).2.2; rw [hT] at this; exact this)
    have HD := Lib.hid (fun a (ha : a < n) (h : T a = false) => show dtK M d i (freeC T n) (L a) = dtT ((M i a + 2 * (L a : Int)) % 4) (dt M d (i + 1) (freeC (tkC T a) n)) by
      have := free_at T a n h ha
      rw [hL]; unfold dtK; rw [this.1, this.2.1])
    have HLEN := Lib.hid (fun a (ha : a < n) (h : T a = false) => show (freeC (tkC T a) n).length = d by
      have := free_at T a n h ha
      rw [← this.2.1, List.length_eraseIdx_of_lt this.2.2, hT]; rfl)
    have HXB := Lib.hid (fun a (ha : a < n) (h : T a = false) => show (-24 ≤ (dt M d (i + 1) (freeC (tkC T a) n)).1 ∧ (dt M d (i + 1) (freeC (tkC T a) n)).1 ≤ 24) ∧ (-24 ≤ (dt M d (i + 1) (freeC (tkC T a) n)).2 ∧ (dt M d (i + 1) (freeC (tkC T a) n)).2 ≤ 24) by
      have := dt_small M d (i + 1) (freeC (tkC T a) n) (HLEN.out a ha h)
      omega)
    obtain ⟨D, hD⟩ : ∃ D : Nat → Int × Int, D = dtK M d i (freeC T n) := ⟨_, rfl⟩
    have HKB := Lib.hid (fun k (hk : k < d + 1) => show (-24 ≤ (D k).1 ∧ (D k).1 ≤ 24) ∧ (-24 ≤ (D k).2 ∧ (D k).2 ≤ 24) by
      have := dtK_small M d i (freeC T n) hT k hk
      rw [hD]; omega)
    have HSB1 := Lib.hid (fun k (hk : k ≤ d) => show -96 ≤ sumN (fun k => (D k).1) k ∧ sumN (fun k => (D k).1) k ≤ 96 by
      have h1 := sumN_upto (fun k => (D k).1) (fac d) (d + 1) (fun k hk => by rw [hD]; exact (dtK_small M d i (freeC T n) hT k hk).1) k (by omega)
      have h2 : (k : Int) * fac d ≤ (d : Int) * fac d := Int.mul_le_mul_of_nonneg_right (by omega) (by omega)
      omega)
    have HSB2 := Lib.hid (fun k (hk : k ≤ d) => show -96 ≤ sumN (fun k => (D k).2) k ∧ sumN (fun k => (D k).2) k ≤ 96 by
      have h1 := sumN_upto (fun k => (D k).2) (fac d) (d + 1) (fun k hk => by rw [hD]; exact (dtK_small M d i (freeC T n) hT k hk).2) k (by omega)
      have h2 : (k : Int) * fac d ≤ (d : Int) * fac d := Int.mul_le_mul_of_nonneg_right (by omega) (by omega)
      omega)
    have hdt : dt M (d + 1) i (freeC T n) = (sumN (fun k => (D k).1) (d + 1), sumN (fun k => (D k).2) (d + 1)) := by rw [dt_succ, hT, hD]
    rw [hdt]
    rw [← hD] at HD
    obtain ⟨S, hS⟩ : ∃ S : Nat → Int, S = sumN (fun k => (D k).1) := ⟨_, rfl⟩
    obtain ⟨R, hR⟩ : ∃ S : Nat → Int, S = sumN (fun k => (D k).2) := ⟨_, rfl⟩
    have HSS := Lib.hid (fun k => show S (k + 1) = S k + (D k).1 by rw [hS]; rfl)
    have HRS := Lib.hid (fun k => show R (k + 1) = R k + (D k).2 by rw [hR]; rfl)
    have HS0 := Lib.hid (show f32of (S 0) = 0 by rw [hS]; show f32of 0 = 0; decide)
    have HR0 := Lib.hid (show f32of (R 0) = 0 by rw [hR]; show f32of 0 = 0; decide)
    rw [← hS] at HSB1 ⊢
    rw [← hR] at HSB2 ⊢
    have HMV := Lib.hid (fun a (ha : a < n) => hV.2.1 i a hin ha)
    have IH := Lib.hid (fun a (ha : a < n) (h : T a = false) => ih (tkC T a) (i + 1) (by omega) (HLEN.out a ha h))
    have IM := Lib.hid (infoMxC V n)
    have IB := Lib.hid (fun T' => infoBoC T')
    have LL0 := Lib.hid L0
    clear hL hD hS hR hdt f4 ih hT hV L0
    have B0 := Lib.hid (Below.refl w.heap.size w)
    go_enter Try.func29, Try.ntmps29
    go_wp2_with (first
      | ((with_reducible refine at_op (Op.box 53 (.tmp 0)) ?_); refine wpList_box_row rfl 53 (.tmp 0) rfl (mxC V n) rfl ?_; intro w1 hr hb hz; have R1_m := Lib.hid hr; have B1 := Lib.hid (joins B0.out hb); have L1_m := Lib.hid (show w.heap.size ≤ w.heap.size from B0.out.size); have c0 := rowC hr (mxC_side V n); clear hr hb hz)
      | ((with_reducible refine at_op (Op.box 58 (.tmp 2)) ?_); refine wpList_box_row rfl 58 (.tmp 2) rfl (boC T) rfl ?_; intro w2 hr hb hz; have N2_m_t := Lib.hid (Nat.ne_of_lt (row_lt R1_m.out)); have N2_t_m := Lib.hid (Ne.symm N2_m_t.out); have R2_m := Lib.hid (rowB R1_m.out hb); have R2_t := Lib.hid hr; have B2 := Lib.hid (joins B1.out hb); have L2_t := Lib.hid (show w.heap.size ≤ w1.heap.size from B1.out.size); have c1 := rowC R2_m.out (mxC_side V n); clear hr hb hz))
    have RM0 := R2_m
    have RT0 := R2_t
    have BB0 := B2
    have LM := L1_m
    have LT := L2_t
    have NMT := N2_m_t
    have NTM := N2_t_m
    try simp only [beq_eq_false_iff_ne.2 hne]
    go_loopw [16, 7, 8] (fun q s g wr => ∃ a : Nat, a ≤ n ∧ q = .int .i64 a ∧ s = .complex .f32 (f32of (S (L a))) (f32of (R (L a))) ∧ (∃ x : Nat × Nat, isV x ((2 * (L a : Int)) % 4) ∧ g = .complex .f32 x.1 x.2) ∧ wr.heap[w.heap.size]? = some (.cells (mxC V n) 53 (0, 0)) ∧ wr.heap[w1.heap.size]? = some (.cells (boC T) 58 (0, 0)) ∧ Below w.heap.size w wr) (fun q _ _ _ => n - (intOf q).toNat)
    case atStart => exact ⟨0, Nat.zero_le _, rfl, by rw [LL0.out, HS0.out, HR0.out], ⟨(1065353216, 0), by rw [LL0.out]; decide, rfl⟩, RM0.out, RT0.out, BB0.out⟩
    case round =>
      obtain ⟨a, ha, rfl, rfl, ⟨⟨x1, x2⟩, hx, rfl⟩, hm, ht, hbel⟩ := hrel
      have RM := Lib.hid hm
      have RT := Lib.hid ht
      have BR := Lib.hid hbel
      have HX := Lib.hid hx
      have c0 := rowC hm (mxC_side _ _)
      clear hm ht hbel hx
      by_cases hlt : a < n
      · have h0 : (0 : Int) ≤ (a : Int) := by omega
        have h1 : (a : Int) < (n : Int) := by omega
        have h8a : (a : Int) < 8 := by omega
        have ct := cell_bo RT.out (c := a) (by omega)
        cases hTa : T a with
        | true =>
          have HL1 := Lib.hid (LY.out a hTa)
          rw [hTa] at ct
          clear hTa
          go_wp2_with fail
          go_roundw
          case rel => exact ⟨a + 1, by omega, by go_num, by rw [HL1.out], ⟨(x1, x2), by rw [HL1.out]; exact HX.out, rfl⟩, RM.out, RT.out, BR.out⟩
          case measure => simp [intOf]; omega
        | false =>
          rw [hTa] at ct
          have HL1 := Lib.hid (LN.out a hTa)
          have hLb := LB.out a hlt hTa
          have hD := HD.out a hlt hTa
          have IH1 := Lib.hid (IH.out a hlt hTa)
          have hxb := HXB.out a hlt hTa
          have hkb := HKB.out (L a) hLb
          have hs1 := HSB1.out (L a) (by omega)
          have hs2 := HSB2.out (L a) (by omega)
          have hss := HSS.out (L a)
          have hrs := HRS.out (L a)
          have hmv := HMV.out a hlt
          have hset := set_bo RT.out (c := a) (by omega) true
          have ft := rowFree (i := a) RT.out
          have HTB := Lib.hid (tk_back T a hTa)
          obtain ⟨X, hX⟩ : ∃ X, X = (dt M d (i + 1) (freeC (tkC T a) n)).1 := ⟨_, rfl⟩
          obtain ⟨Y, hY⟩ : ∃ Y, Y = (dt M d (i + 1) (freeC (tkC T a) n)).2 := ⟨_, rfl⟩
          have hD1 : (D (L a)).1 = vx ((M i a + 2 * (L a : Int)) % 4) * X - vy ((M i a + 2 * (L a : Int)) % 4) * Y := by rw [hD, hX, hY]; rfl
          have hD2 : (D (L a)).2 = vx ((M i a + 2 * (L a : Int)) % 4) * Y + vy ((M i a + 2 * (L a : Int)) % 4) * X := by rw [hD, hX, hY]; rfl
          rw [← hX, ← hY] at IH1 hxb
          have hmul1 := isV_mul HX.out hmv
          rw [show ((2 * (L a : Int)) % 4 + M i a) % 4 = (M i a + 2 * (L a : Int)) % 4 by clear hD1 hD2 hss hrs hs1 hs2 hkb; omega] at hmul1
          obtain ⟨y1, y2, hmul2, hy1, hy2⟩ := unit_times hmul1.2 X Y hxb.1 hxb.2
          rw [← hD1] at hy1
          rw [← hD2] at hy2
          have hadd := fun w t => run_addd (P := Try.prog) w t (S (L a)) (R (L a)) (D (L a)).1 (D (L a)).2 y1 y2 hs1 hs2 hkb.1 hkb.2 hy1 hy2
          rw [← hss, ← hrs] at hadd
          have HNX := Lib.hid (show isV (f32neg x1, f32neg x2) ((2 * ((L a + 1 : Nat) : Int)) % 4) by
            have := isV_neg HX.out
            rwa [show ((2 * (L a : Int)) % 4 + 2) % 4 = (2 * ((L a + 1 : Nat) : Int)) % 4 by clear hD1 hD2 hss hrs hs1 hs2 hkb hadd; omega] at this)
          have HCS := Lib.hid (show ∃ v1 v2, V (i * 8 + a) = (v1, v2) from ⟨_, _, rfl⟩)
          obtain ⟨v1, v2, hv⟩ := HCS.out
          rw [hv] at hmul1 hmul2
          obtain ⟨z1, hz1⟩ : ∃ z, z = (mulB (x1, x2) (v1, v2)).1 := ⟨_, rfl⟩
          obtain ⟨z2, hz2⟩ : ∃ z, z = (mulB (x1, x2) (v1, v2)).2 := ⟨_, rfl⟩
          have hm1 := hmul1.1
          rw [← hz1, ← hz2] at hm1 hmul2
          have hmA := fun w t => run_complex_mul32 (P := Try.prog) w t _ _ _ _ _ _ hm1
          have hmB := fun w t => run_complex_mul32 (P := Try.prog) w t _ _ _ _ _ _ hmul2
          simp only at hmA hmB
          obtain ⟨p1, hp1⟩ : ∃ x, x = f32of (S (L a)) := ⟨_, rfl⟩
          obtain ⟨p2, hp2⟩ : ∃ x, x = f32of (R (L a)) := ⟨_, rfl⟩
          obtain ⟨p3, hp3⟩ : ∃ x, x = f32of (S (L a + 1)) := ⟨_, rfl⟩
          obtain ⟨p4, hp4⟩ : ∃ x, x = f32of (R (L a + 1)) := ⟨_, rfl⟩
          obtain ⟨q1, hq1⟩ : ∃ x, x = f32of X := ⟨_, rfl⟩
          obtain ⟨q2, hq2⟩ : ∃ x, x = f32of Y := ⟨_, rfl⟩
          rw [← hp1, ← hp2, ← hp3, ← hp4] at hadd
          rw [← hp1, ← hp2]
          rw [← hq1, ← hq2] at IH1 hmB
          have HP3 := Lib.hid hp3
          have HP4 := Lib.hid hp4
          have HCX := Lib.hid (fun (w' : World) (h' : w'.heap[w.heap.size]? = some (.cells (mxC V n) 53 (0, 0))) => show w'.cell? ⟨w.heap.size, i * 8 + a, none⟩ = some (.complex .f32 v1 v2) by have e := cell_row h' (c := i * 8 + a) (by omega); rw [hv] at e; exact e)
          have hset2 : (wr.setCell ⟨w1.heap.size, a, none⟩ (.bool true)).heap[w1.heap.size]? = some (.cells (boC (tkC T a)) 58 (0, 0)) := hset
          have hmset := (heap_setCell_other wr ⟨w1.heap.size, a, none⟩ (w.heap.size) (.bool true) NMT.out).trans RM.out
          have hbset := BR.out.setCell (p := ⟨w1.heap.size, a, none⟩) LT.out (.bool true)
          obtain ⟨wx, hwx⟩ : ∃ wx, wx = wr.setCell ⟨w1.heap.size, a, none⟩ (.bool true) := ⟨_, rfl⟩
          rw [← hwx] at hset2 hmset hbset
          have RTX := Lib.hid hset2
          have RMX := Lib.hid hmset
          have BX := Lib.hid hbset
          obtain ⟨U, hU⟩ : ∃ U, U = tkC T a := ⟨_, rfl⟩
          rw [← hU] at RTX IH1 HTB
          have HWX := Lib.hid hwx
          have h0i : (0 : Int) ≤ (i : Int) := by omega
          have h8i : (i : Int) < 8 := by omega
          have HW2 := Lib.hid (show IntKind.i64.wrap ((i : Int) + 1) = ((i + 1 : Nat) : Int) from Eq.trans (IntWalk.i64_in ((i : Int) + 1) ⟨by clear hadd hss hrs hs1 hs2 hkb hmA hmB; omega, by clear hadd hss hrs hs1 hs2 hkb hmA hmB; omega⟩) (by push_cast; rfl))
          clear hset hset2 hmset hbset hD hD1 hD2 hxb hkb hs1 hs2 hss hrs hmv hX hY hmul1 hmul2 hy1 hy2 hv HCS hz1 hz2 hm1 hp1 hp2 hp3 hp4 hq1 hq2 hTa hU hwx hLb
          go_wp2_with fail
          rw [← HWX.out]
          clear ct ft HWX c0
          go_wp2_with fail
          refine wp_region_held_drew (S := (fun w' => World.grownBy wx w' none)) (by kernel_rfl) (grownDrew (World.grownBy.refl _ _)) ?_
          obtain ⟨w31, hdw⟩ : ∃ w', w' = wx.drew := ⟨_, rfl⟩
          rw [← hdw]
          have hb : Below wx.heap.size wx w31 := by rw [hdw]; exact belowN (Below.refl _ _) 1
          have R31_m := Lib.hid (rowB RMX.out hb)
          have R31_t := Lib.hid (rowB RTX.out hb)
          have B31 := Lib.hid (joins BX.out hb)
          clear hdw hb
          intro hHeld
          refine' wpAnyH_take (i := 0) (v := _) rfl (by kernel_rfl) (by kernel_rfl) (by kernel_rfl) (fun _ _ _ h => h) (Or.inl ⟨by rfl, ?hy1⟩) (by assumption) ?rest1
          case hy1 =>
            intro w h
            (try clear h)
            go_simp
            (try with_reducible rfl)
          (try simp only [Act.put, List.getElem_toArray, List.getElem_cons_zero, List.setIfInBounds_toArray, List.set_cons_zero, List.set_cons_succ])
          refine' wpAnyH_take (i := 1) (v := _) rfl (by kernel_rfl) (by kernel_rfl) (by kernel_rfl) (fun _ _ _ h => h) (Or.inl ⟨by rfl, ?hy2⟩) (by assumption) ?rest2
          case hy2 =>
            intro w h
            (try clear h)
            go_simp
            (try with_reducible rfl)
          (try simp only [Act.put, List.getElem_toArray, List.getElem_cons_zero, List.getElem_cons_succ, List.setIfInBounds_toArray, List.set_cons_zero, List.set_cons_succ])
          refine' wpAnyH_take (i := 2) (v := _) rfl (by kernel_rfl) (by kernel_rfl) (by kernel_rfl) (fun _ _ _ h => h) (Or.inl ⟨by rfl, ?hy3⟩) (by assumption) ?rest3
          case hy3 =>
            intro w h
            (try clear h)
            go_simp
            (try with_reducible rfl)
          (try simp only [Act.put, List.getElem_toArray, List.getElem_cons_zero, List.getElem_cons_succ, List.setIfInBounds_toArray, List.set_cons_zero, List.set_cons_succ])
          refine' wpAnyH_take (i := 3) (v := _) rfl (by kernel_rfl) (by kernel_rfl) (by kernel_rfl) (fun _ _ _ h => h) (Or.inl ⟨by rfl, ?hy4⟩) (by assumption) ?rest4
          case hy4 =>
            intro w h
            (try clear h)
            go_simp
            (try with_reducible rfl)
          (try simp only [Act.put, List.getElem_toArray, List.getElem_cons_zero, List.getElem_cons_succ, List.setIfInBounds_toArray, List.set_cons_zero, List.set_cons_succ])
          refine' wpAnyH_take (i := 4) (v := _) rfl (by kernel_rfl) (by kernel_rfl) (by kernel_rfl) (fun _ _ _ h => h) (Or.inl ⟨by rfl, ?hy5⟩) (by assumption) ?rest5
          case hy5 =>
            intro w h
            (try clear h)
            go_simp
            (try with_reducible rfl)
          (try simp only [Act.put, List.getElem_toArray, List.getElem_cons_zero, List.getElem_cons_succ, List.setIfInBounds_toArray, List.set_cons_zero, List.set_cons_succ])
          refine' wpAnyH_take (i := 5) (v := _) rfl (by kernel_rfl) (by kernel_rfl) (by kernel_rfl) (fun _ _ _ h => h) (Or.inl ⟨by rfl, ?hy6⟩) (by assumption) ?rest6
          case hy6 =>
            intro w h
            (try clear h)
            go_simp
            (try with_reducible rfl)
          (try simp only [Act.put, List.getElem_toArray, List.getElem_cons_zero, List.getElem_cons_succ, List.setIfInBounds_toArray, List.set_cons_zero, List.set_cons_succ])
          refine' wpAnyH_take (i := 6) (v := _) rfl (by kernel_rfl) (by kernel_rfl) (by kernel_rfl) (fun _ _ _ h => h) (Or.inl ⟨by rfl, ?hy7⟩) (by assumption) ?rest7
          case hy7 =>
            intro w h
            (try clear h)
            go_simp
            (try with_reducible rfl)
          (try simp only [Act.put, List.getElem_toArray, List.getElem_cons_zero, List.getElem_cons_succ, List.setIfInBounds_toArray, List.set_cons_zero, List.set_cons_succ])
          refine' wpAnyH_take (i := 7) (v := _) rfl (by kernel_rfl) (by kernel_rfl) (by kernel_rfl) (fun _ _ _ h => h) (Or.inl ⟨by rfl, ?hy8⟩) (by assumption) ?rest8
          case hy8 =>
            intro w h
            have cs := HCX.out _ (rowG RMX.out h (by simp))
            (try clear h)
            go_simp
            (try with_reducible rfl)
          (try simp only [Act.put, List.getElem_toArray, List.getElem_cons_zero, List.getElem_cons_succ, List.setIfInBounds_toArray, List.set_cons_zero, List.set_cons_succ])
          refine' wpAnyH_take (i := 8) (v := _) rfl (by kernel_rfl) (by kernel_rfl) (by kernel_rfl) (fun _ _ _ h => h) (Or.inl ⟨by rfl, ?hy9⟩) (by assumption) ?rest9
          case hy9 =>
            intro w h
            (try clear h)
            go_simp
            (try with_reducible rfl)
          (try simp only [Act.put, List.getElem_toArray, List.getElem_cons_zero, List.getElem_cons_succ, List.setIfInBounds_toArray, List.set_cons_zero, List.set_cons_succ])
          refine' wpAnyH_take (i := 9) (v := _) rfl (by kernel_rfl) (by kernel_rfl) (by kernel_rfl) (fun _ _ _ h => h) (yieldsPart (by rfl) 53 (.tmp 3) rfl (w.heap.size) 0 rfl (mxC V n) (mxC V n) 53 (0, 0) _ (fun w h => (rowG RMX.out h (by simp))) (Part.self _) Try.underlying53 rfl IM.out) (by assumption) ?rest10
          (try simp only [Act.put, List.getElem_toArray, List.getElem_cons_zero, List.getElem_cons_succ, List.setIfInBounds_toArray, List.set_cons_zero, List.set_cons_succ])
          refine' wpAnyH_take (i := 10) (v := _) rfl (by kernel_rfl) (by kernel_rfl) (by kernel_rfl) (fun _ _ _ h => h) (Or.inl ⟨by rfl, ?hy11⟩) (by assumption) ?rest11
          case hy11 =>
            intro w h
            (try clear h)
            go_simp
            (try with_reducible rfl)
          (try simp only [Act.put, List.getElem_toArray, List.getElem_cons_zero, List.getElem_cons_succ, List.setIfInBounds_toArray, List.set_cons_zero, List.set_cons_succ])
          refine' wpAnyH_take (i := 11) (v := _) rfl (by kernel_rfl) (by kernel_rfl) (by kernel_rfl) (fun _ _ _ h => h) (Or.inl ⟨by rfl, ?hy12⟩) (by assumption) ?rest12
          case hy12 =>
            intro w h
            (try clear h)
            go_simp
            (try with_reducible rfl)
          (try simp only [Act.put, List.getElem_toArray, List.getElem_cons_zero, List.getElem_cons_succ, List.setIfInBounds_toArray, List.set_cons_zero, List.set_cons_succ])
          refine' wpAnyH_take (i := 12) (v := _) rfl (by kernel_rfl) (by kernel_rfl) (by kernel_rfl) (fun _ _ _ h => h) (yieldsPart (by rfl) 58 (.tmp 5) rfl (w1.heap.size) 0 rfl (boC U) (boC U) 58 (0, 0) _ (fun w h => (rowG RTX.out h (by simp))) (Part.self _) Try.underlying58 rfl (IB.out U)) (by assumption) ?rest13
          (try simp only [Act.put, List.getElem_toArray, List.getElem_cons_zero, List.getElem_cons_succ, List.setIfInBounds_toArray, List.set_cons_zero, List.set_cons_succ])
          refine wpAnyH_ready (rs := [13]) (by kernel_rfl) (by simp) ?_
          refine AllReadyH.cons rfl (fun K hK => ?_) AllReadyH.nil
          go_simp
          (try rw [HW2.out])
          refine (IH1.out _).mono ?_
          rintro e w32 ⟨rfl, hb⟩
          have R32_m := Lib.hid (rowB R31_m.out hb)
          have R32_t := Lib.hid (rowB R31_t.out hb)
          have B32 := Lib.hid (joins B31.out hb)
          have hHeld := grownB hHeld hb
          clear hb
          refine hK.out _ _ hHeld (fun hHeld => ?_)
          clear hK K
          (try simp only [Act.put, List.getElem_toArray, List.getElem_cons_zero, List.getElem_cons_succ, List.setIfInBounds_toArray, List.set_cons_zero, List.set_cons_succ])
          refine' wpAnyH_take (i := 14) (v := _) rfl (by kernel_rfl) (by kernel_rfl) (by kernel_rfl) (fun _ _ _ h => h) (Or.inl ⟨by rfl, ?hy14⟩) (by assumption) ?rest14
          case hy14 =>
            intro w h
            (try clear h)
            go_simp
            (try with_reducible rfl)
          (try simp only [Act.put, List.getElem_toArray, List.getElem_cons_zero, List.getElem_cons_succ, List.setIfInBounds_toArray, List.set_cons_zero, List.set_cons_succ])
          refine' wpAnyH_take (i := 15) (v := _) rfl (by kernel_rfl) (by kernel_rfl) (by kernel_rfl) (fun _ _ _ h => h) (Or.inl ⟨by rfl, ?hy15⟩) (by assumption) ?rest15
          case hy15 =>
            intro w h
            (try clear h)
            go_simp
            (try with_reducible rfl)
          (try simp only [Act.put, List.getElem_toArray, List.getElem_cons_zero, List.getElem_cons_succ, List.setIfInBounds_toArray, List.set_cons_zero, List.set_cons_succ])
          refine' wpAnyH_take (i := 16) (v := _) rfl (by kernel_rfl) (by kernel_rfl) (by kernel_rfl) (fun _ _ _ h => h) (Or.inl ⟨by rfl, ?hy16⟩) (by assumption) ?rest16
          case hy16 =>
            intro w h
            (try clear h)
            go_simp
            (try with_reducible rfl)
          (try simp only [Act.put, List.getElem_toArray, List.getElem_cons_zero, List.getElem_cons_succ, List.setIfInBounds_toArray, List.set_cons_zero, List.set_cons_succ])
          refine wpAnyH_done (by kernel_rfl) ?_ _
          have hset := set_bo R32_t.out (c := a) (by omega) false
          rw [HTB.out] at hset
          have ft := rowFree (i := a) R32_t.out
          have ct := cell_bo R32_t.out (c := a) (by omega)
          have ST := Lib.hid hset
          have SM := Lib.hid ((heap_setCell_other w32 ⟨w1.heap.size, a, none⟩ (w.heap.size) (.bool false) NMT.out).trans R32_m.out)
          have SB := Lib.hid (B32.out.setCell (p := ⟨w1.heap.size, a, none⟩) LT.out (.bool false))
          have hng := fun w => run_negc w x1 x2
          clear hset
          go_wp2_with fail
          go_roundw
          case rel => exact ⟨a + 1, by omega, by go_num, by rw [HL1.out, HP3.out, HP4.out], ⟨(f32neg x1, f32neg x2), by rw [HL1.out]; exact HNX.out, rfl⟩, SM.out, ST.out, SB.out⟩
          case measure => simp [intOf]; omega
      · obtain rfl : n = a := by omega
        go_wp2_with fail
        go_returns
        exact ⟨by rw [Ln.out]; rfl, BR.out⟩
end Go.Proofs.Ytccjmigdebchiaa
