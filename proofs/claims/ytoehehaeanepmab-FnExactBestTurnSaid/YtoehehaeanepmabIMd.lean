/- The program's points: list, scaled, PointsOf, TurnPoints. -/
import Derived.Test.YtoehehaeanepmabMdP
import Derived.Test.YtoehehaeanepmabINs
namespace Go.Proofs.Ytoehehaeanepmab
set_option maxRecDepth 100000
open Go.RowKit

set_option maxRecDepth 100000 in
set_option maxHeartbeats 2000000 in
theorem listW_any (g n : Nat) (B : Nat) (C : Nat → Nat × Nat) (X Y : Nat → Int) (h : ∀ i, i < n → floatToIntVal .f32 (C i).1 .i64 = some (X i) ∧ floatToIntVal .f32 (C i).2 .i64 = some (Y i)) (h32 : n ≤ 64) (w : World) (hr : RowC w B g n C) :
    Calls Try.prog 45 #[.slice (some ⟨g, 0, none⟩) n n] w (MakesGB w (if goodL (genG n X Y) then genG n X Y else []) (goodL (genG n X Y))) := by
  obtain ⟨i0, hi, hz0, hz1, hz2⟩ := info_parts infoG
  obtain ⟨L, hL⟩ : ∃ L, L = genG n X Y := ⟨_, rfl⟩
  rw [← hL]
  obtain ⟨L2, hL2⟩ : ∃ L2, L2 = (if goodL L then L else []) := ⟨_, rfl⟩
  rw [← hL2]
  obtain ⟨q, hq⟩ : ∃ q, q = goodL L := ⟨_, rfl⟩
  rw [← hq]
  have HL := Lib.hid (And.intro hL (And.intro hL2 hq))
  have HI := Lib.hid h
  have HR := Lib.hid hr
  clear hL hL2 hq h hr
  go_enter Try.func45, Try.ntmps45
  go_wp2_with (at_make; refine wpList_make_full _ rfl _ _ 23 rfl w.heap.size 51 i0 (.agg #[.int .i64 0, .int .i64 0]) 2 Try.underlying23 hi hz0 hz1 _ _ _ _ n rfl rfl rfl rfl ?b2 ?b3 (Nat.le_refl _) ?_)
  case b2 => rw [hz2]; omega
  case b3 => unfold maxLen; omega
  intro w0 hown0 hgrow0
  have hown1 : w0.ownsRow w.heap.size 51 2 (.slice (some ⟨w.heap.size, 0, none⟩) n n) n (fl (upG n 0 X Y)) := by
    rw [upG_zero, ← flR_zeros]; exact hown0
  have HO0 := Lib.hid hown1
  have HB0 := Lib.hid (show Below w.heap.size w w0 from (Below.refl _ _).grown hgrow0 (Nat.le_refl _) (fun k h => by cases h))
  clear hown0 hown1 hgrow0
  go_wp2_with fail
  go_loopw [12] (fun i wr => ∃ j : Nat, j ≤ n ∧ i = .int .i64 j ∧ wr.ownsRow w.heap.size 51 2 (.slice (some ⟨w.heap.size, 0, none⟩) n n) n (fl (upG n j X Y)) ∧ Below w.heap.size w wr) (fun i _ => n - (intOf i).toNat)
  case atStart => exact ⟨0, Nat.zero_le _, rfl, HO0.out, HB0.out⟩
  case round =>
    obtain ⟨j, hj, rfl, hown, hbel⟩ := hrel
    have HB := Lib.hid hbel
    have HO := Lib.hid hown
    clear hown hbel
    by_cases hlt : j < n
    · obtain ⟨f1, f2⟩ := HI.out j hlt
      have c0 := (HR.out.below HB.out).cell j hlt
      obtain ⟨p1, hp1⟩ : ∃ p, p = (C j).1 := ⟨_, rfl⟩
      obtain ⟨p2, hp2⟩ : ∃ p, p = (C j).2 := ⟨_, rfl⟩
      obtain ⟨x, hx⟩ : ∃ x, x = X j := ⟨_, rfl⟩
      obtain ⟨y, hy⟩ : ∃ y, y = Y j := ⟨_, rfl⟩
      rw [← hp1, ← hp2] at c0
      rw [← hp1, ← hx] at f1
      rw [← hp2, ← hy] at f2
      have HT := Lib.hid (gaussOf_int p1 p2 x y f1 f2)
      have HX := Lib.hid (And.intro hx hy)
      have h0 : (0 : Int) ≤ (j : Int) := by omega
      have hlt1 : (j : Int) < (n : Int) := by omega
      clear hx hy hp1 hp2 f1 f2
      go_wp2_with fail
      refine (HT.out _).mono ?_
      rintro e w1 ⟨rfl, hb⟩
      have HB1 := Lib.hid (joins HB.out hb)
      have hO1 := rowBelow HO.out hb
      have HO1 := Lib.hid hO1
      have c1 : w1.cell? ⟨w.heap.size, j * 2, none⟩ = some (.int .i64 (gre (upG n j X Y) j)) := by
        rw [hO1.cellAt (j * 2) (by omega)]
        exact fl_re _ j (by rw [upG_length]; omega)
      have c2 : w1.cell? ⟨w.heap.size, j * 2 + 1, none⟩ = some (.int .i64 (gim (upG n j X Y) j)) := by
        rw [hO1.cellAt (j * 2 + 1) (by omega)]
        exact fl_im _ j (by rw [upG_length]; omega)
      rw [upG_re n j X Y j hlt, if_neg (Nat.lt_irrefl _)] at c1
      rw [upG_im n j X Y j hlt, if_neg (Nat.lt_irrefl _)] at c2
      have f1 := hO1.frozenAt (j * 2)
      have f2 := hO1.frozenAt (j * 2 + 1)
      clear hb hO1 c0
      go_wp2_with fail
      go_roundw
      case rel =>
        have hs := HO1.out.stored (j * 2) (.int .i64 x)
        have hs2 := hs.1.stored (j * 2 + 1) (.int .i64 y)
        rw [fl_set2 _ j (by rw [upG_length]; exact hlt), HX.out.1, HX.out.2, upG_set n j X Y hlt] at hs2
        rw [← HX.out.1, ← HX.out.2] at hs2
        exact ⟨j + 1, by omega, by go_num, hs2.1, belows (belows HB1.out (Nat.le_refl _) _) (Nat.le_refl _) _⟩
      case measure => simp [intOf]; omega
    · obtain rfl : j = n := by omega
      have hO : OwnG wr w.heap.size (.slice (some ⟨w.heap.size, 0, none⟩) j j) L := by
        have := HO.out
        rw [upG_all] at this
        rw [HL.out.1]
        unfold OwnG
        rw [genG_length]
        exact this
      have HOG := Lib.hid hO
      have HV := Lib.hid (listIfValid_any _ L wr hO.is)
      rw [← HL.out.2.2] at HV
      clear hO
      go_wp2_with fail
      refine (HV.out).mono ?_
      rintro e w1 ⟨rfl, hb⟩
      cases q with
      | true =>
        rw [if_pos rfl]
        have hL2 : L2 = L := by rw [HL.out.2.1, ← HL.out.2.2]; rfl
        have HOG1 := Lib.hid (HOG.out.below hb)
        have HB1 := Lib.hid (joins HB.out hb)
        clear hb
        have HE := Lib.hid hL2
        clear hL2
        go_wp2_with fail
        go_returns
        refine ⟨_, rfl, ?_, HB1.out⟩
        rw [HE.out]
        exact HOG1.out
      | false =>
        rw [if_neg Bool.false_ne_true]
        have hL2 : L2 = [] := by rw [HL.out.2.1, ← HL.out.2.2]; rfl
        have HB1 := Lib.hid (joins HB.out hb)
        clear hb
        have HE := Lib.hid hL2
        clear hL2
        go_wp2_with fail
        go_returns
        refine ⟨_, rfl, ?_, HB1.out⟩
        rw [HE.out]
        exact OwnG.nil _ _
theorem listG_any (g n : Nat) (B : Nat) (C : Nat → Nat × Nat) (X Y : Nat → Int) (hz : CZ C X Y n) (hg : goodL (genG n X Y) = true) (h32 : n ≤ 64) (w : World) (hr : RowC w B g n C) :
    Calls Try.prog 45 #[.slice (some ⟨g, 0, none⟩) n n] w (MakesGB w (genG n X Y) true) := by
  have := listW_any g n B C X Y (fun i hi => by
    have hgi := good_in (goodL_at hg i (by rw [genG_length]; exact hi))
    rw [genG_re _ _ _ _ hi, genG_im _ _ _ _ hi] at hgi
    exact ⟨FN_toInt (hz i hi).1 (by omega), FN_toInt (hz i hi).2 (by omega)⟩) h32 w hr
  rw [hg, if_pos rfl] at this
  exact this

/-! ### phases times a scale -/
theorem fb_zero : FK .f32 0 0 := FN_ofInt .f32 0 (by decide)
set_option maxRecDepth 100000 in
set_option maxHeartbeats 2000000 in
theorem scaled_in (v : Value) (s : List Int) (k : Int) (w : World) (hv : IS w v s) (hs : allIn s 0 3 = true) (hlen : s.length ≤ 48) (hk1 : 1 ≤ k) (hk2 : k ≤ 1000) :
    Calls Try.prog 37 #[v, .int .i64 k] w (MakesGB w (scL s k) true) := by
  obtain ⟨i0, hi, hz0, hz1, hz2⟩ := info_parts infoC
  obtain ⟨a, cap, hveq⟩ := hv.slice
  subst hveq
  have HV := Lib.hid hv
  have HAT := Lib.hid (fun j hj => allIn_getD hs j hj)
  have HGV := Lib.hid (gaussValue_any k 0)
  have hMT := fun (j : Int) (hj : 0 ≤ j ∧ j ≤ 3) => mulC_turn (fb_ok k (by omega)) (fb_ok 0 (by omega)) (by omega) (by omega) j hj
  have HMT := Lib.hid (fun j hj => (hMT j hj).1)
  obtain ⟨D, hD⟩ : ∃ D : Nat → Nat × Nat, D = fun i => mulC (fb k) (fb 0) (f32of (vx (s.getD i 0))) (f32of (vy (s.getD i 0))) := ⟨_, rfl⟩
  have hCZ : CZ D (scX s k) (scY s k) s.length := fun i hi => by
    have := (hMT (s.getD i 0) (allIn_getD hs i hi)).2
    rw [hD]
    have e1 : mulX k 0 (vx (s.getD i 0)) (vy (s.getD i 0)) = scX s k i := by unfold mulX scX; omega
    have e2 : mulY k 0 (vx (s.getD i 0)) (vy (s.getD i 0)) = scY s k i := by unfold mulY scY; omega
    rw [e1, e2] at this
    exact this
  have hgl := sc_good hs (k := k) (by omega)
  have HLI := Lib.hid (fun g B w (hr : RowC w B g s.length D) => listG_any g s.length B D (scX s k) (scY s k) hCZ hgl (by omega) w hr)
  obtain ⟨L, hL⟩ : ∃ L, L = scL s k := ⟨_, rfl⟩
  rw [show genG s.length (scX s k) (scY s k) = L from hL.symm] at HLI
  rw [← hL]
  obtain ⟨n, hn⟩ : ∃ n, n = s.length := ⟨_, rfl⟩
  rw [← hn] at HV HLI hlen ⊢
  have HN := Lib.hid hn
  have HD := Lib.hid hD
  have hn48 : (n : Int) ≤ 48 := by omega
  obtain ⟨b1, hb1⟩ : ∃ b1, b1 = fb k := ⟨_, rfl⟩
  obtain ⟨b2, hb2⟩ : ∃ b2, b2 = fb 0 := ⟨_, rfl⟩
  rw [← hb1, ← hb2] at HGV HMT HD
  clear hv hs hMT hD hCZ hgl hL hn hb1 hb2
  go_enter Try.func37, Try.ntmps37
  go_wp2_with (at_make; refine wpList_make_full _ rfl _ _ 57 rfl w.heap.size 61 i0 (.complex .f32 0 0) 1 Try.underlying57 hi hz0 hz1 _ _ _ _ n rfl rfl rfl rfl ?b2 ?b3 (Nat.le_refl _) ?_)
  case b2 => rw [hz2]; omega
  case b3 => unfold maxLen; omega
  intro w0 hown0 hgrow0
  have hrow0 : RowC w0 w.heap.size w.heap.size n (upC 0 D) := by
    unfold RowC
    rw [upC_zero, ← cx_zeros]
    simpa using hown0
  have HB0 := Lib.hid (show Below w.heap.size w w0 from (Below.refl _ _).grown hgrow0 (Nat.le_refl _) (fun k h => by cases h))
  have HR0 := Lib.hid hrow0
  clear hown0 hgrow0 hrow0
  obtain ⟨g, hg⟩ : ∃ g, g = w.heap.size := ⟨_, rfl⟩
  have HG := Lib.hid hg
  have HR1 := Lib.hid (show RowC w0 w.heap.size g n (upC 0 D) from by rw [hg]; exact HR0.out)
  rw [← hg]
  clear hg
  go_wp2_with fail
  go_loopw [25, 7, 8] (fun i _ _ wr => ∃ j : Nat, j ≤ n ∧ i = .int .i64 j ∧ RowC wr w.heap.size g n (upC j D) ∧ Below w.heap.size w wr) (fun i _ _ _ => n - (intOf i).toNat)
  case atStart => exact ⟨0, Nat.zero_le _, rfl, HR1.out, HB0.out⟩
  case round =>
    obtain ⟨j, hj, rfl, hrow, hbel⟩ := hrel
    have HB := Lib.hid hbel
    have HR := Lib.hid hrow
    by_cases hlt : j < n
    · have hltl : j < s.length := by rw [← HN.out]; exact hlt
      rcases HV.out.below hbel with ⟨h0', _⟩ | ⟨_, b, off, cap', hveq, _, hc⟩
      · rw [h0'] at hltl; exact absurd hltl (Nat.not_lt_zero _)
      simp only [Value.slice.injEq] at hveq
      obtain ⟨rfl, hnn, rfl⟩ := hveq
      clear hnn
      have c1 := hc j hltl
      have hx := HAT.out j hltl
      have hdj : D j = mulC b1 b2 (f32of (vx (s.getD j 0))) (f32of (vy (s.getD j 0))) := by rw [HD.out]
      obtain ⟨x, hxd⟩ : ∃ x, x = s.getD j 0 := ⟨_, rfl⟩
      rw [← hxd] at c1 hx hdj
      have hm := HMT.out x hx
      have HVk := Lib.hid (valueOf_any x hx.1 hx.2)
      obtain ⟨p, hp⟩ : ∃ u, u = f32of (vx x) := ⟨_, rfl⟩
      obtain ⟨q, hq⟩ : ∃ u, u = f32of (vy x) := ⟨_, rfl⟩
      rw [← hp, ← hq] at HVk hm hdj
      rw [← hdj] at hm
      have hcm := fun w t => run_complex_mul32 (P := Try.prog) w t _ _ _ _ _ _ hm
      obtain ⟨r1, hr1⟩ : ∃ r, r = (D j).1 := ⟨_, rfl⟩
      obtain ⟨r2, hr2⟩ : ∃ r, r = (D j).2 := ⟨_, rfl⟩
      rw [← hr1, ← hr2] at hcm
      have HDJ := Lib.hid (show D j = (r1, r2) by rw [hr1, hr2])
      obtain ⟨hx1, hx2⟩ := hx
      have h0 : (0 : Int) ≤ (j : Int) := by omega
      have h1 : (j : Int) < (n : Int) := by omega
      clear hc hxd hp hq hm hr1 hr2 hdj hltl hrow hbel
      go_wp2_with fail
      refine (HGV.out _).mono ?_
      rintro e w2 ⟨rfl, hb⟩
      have HB2 := Lib.hid (joins HB.out hb)
      have HR2 := Lib.hid (HR.out.below hb)
      clear hb c1
      go_wp2_with fail
      refine (HVk.out _).mono ?_
      rintro e w3 ⟨rfl, hb⟩
      have HB3 := Lib.hid (joins HB2.out hb)
      have hR3 := HR2.out.below hb
      have HR3 := Lib.hid hR3
      have c3 := hR3.cell j hlt
      rw [show upC j D j = (0, 0) from if_neg (Nat.lt_irrefl _)] at c3
      have f1 := World.ownsRow.frozenAt hR3 j
      have hst := @store_complex Try.prog
      clear hb hR3
      go_wp2_with fail
      go_roundw
      case rel =>
        have hs := HR3.out.set j (D j)
        rw [upC_set] at hs
        rw [HDJ.out] at hs
        exact ⟨j + 1, by omega, by go_num, hs, belows HB3.out (Nat.le_of_eq HG.out.symm) _⟩
      case measure => simp [intOf]; omega
    · obtain rfl : j = n := by omega
      have hro : RowC wr w.heap.size g j D := by
        unfold RowC at hrow ⊢
        rw [upC_all] at hrow
        exact hrow
      have HL := Lib.hid (HLI.out g _ wr hro)
      clear hrow hbel hro
      go_wp2_with fail
      refine (HL.out).mono ?_
      rintro e w2 ⟨v2, rfl, ho2, hb2⟩
      have HB2 := Lib.hid (joins HB.out hb2)
      have HO2 := Lib.hid (OwnG.mono ho2 HB.out.size)
      clear ho2 hb2
      go_wp2_with fail
      go_returns
      exact ⟨_, rfl, HO2.out, HB2.out⟩
set_option maxHeartbeats 1000000 in
theorem scaled_no (v : Value) (s : List Int) (k : Int) (w : World) (hv : IS w v s) (h : k < 1 ∨ 1000 < k ∨ 48 < s.length) : Calls Try.prog 37 #[v, .int .i64 k] w (MakesGB w [] false) := by
  obtain ⟨a, cap, hveq⟩ := hv.slice
  subst hveq
  obtain ⟨n, hn⟩ : ∃ n, n = s.length := ⟨_, rfl⟩
  rw [← hn] at h ⊢
  clear hn hv
  by_cases h1 : k < 1
  · clear h
    go_enter Try.func37, Try.ntmps37
    go_wp2_with fail
    go_returns
    exact ⟨_, rfl, OwnG.nil _ _, Below.refl _ _⟩
  · by_cases h2 : 1000 < k
    · clear h
      go_enter Try.func37, Try.ntmps37
      go_wp2_with fail
      go_returns
      exact ⟨_, rfl, OwnG.nil _ _, Below.refl _ _⟩
    · have h3 : (48 : Int) < (n : Int) := by omega
      clear h
      go_enter Try.func37, Try.ntmps37
      go_wp2_with fail
      go_returns
      exact ⟨_, rfl, OwnG.nil _ _, Below.refl _ _⟩
set_option maxHeartbeats 1000000 in
theorem iPointsOf (v : Value) (s : List Int) (k : Int) (w : World) (hv : IS w v s) (hlen : s.length ≤ 1048576) : Calls Try.prog 12 #[v, .int .i64 k] w (MakesGB w (poF s k) (poOk s k)) := by
  have hok : poOk s k = (isSeq s && inB k 1 1000) := rfl
  have HP := Lib.hid (isSequence_any v s w hv hlen)
  cases hs : isSeq s with
  | false =>
    have ho : poOk s k = false := by rw [hok, hs]; rfl
    have hf : poF s k = [] := by unfold poF; rw [ho]; rfl
    rw [ho, hf]
    rw [hs] at HP
    clear hok hs ho hf hv
    go_enter Try.func12, Try.ntmps12
    go_wp2_with fail
    refine (HP.out).mono ?_
    rintro e w1 ⟨rfl, hb⟩
    go_wp2_with fail
    go_returns
    exact ⟨_, rfl, OwnG.nil _ _, hb⟩
  | true =>
    rw [hs] at HP
    have hl := isSeq_len hs
    have HV := Lib.hid hv
    have HSC := Lib.hid (show ∀ w, IS w v s → Calls Try.prog 37 #[v, .int .i64 k] w (MakesGB w (poF s k) (poOk s k)) from fun w h => by
      cases hk : inB k 1 1000 with
      | true =>
        have ho : poOk s k = true := by rw [hok, hs, hk]; rfl
        have hf : poF s k = scL s k := by unfold poF; rw [ho]; rfl
        rw [ho, hf]
        have hk2 : 1 ≤ k ∧ k ≤ 1000 := by simpa [inB] using hk
        exact scaled_in v s k w h (isSeq_all hs) (by omega) hk2.1 hk2.2
      | false =>
        have ho : poOk s k = false := by rw [hok, hs, hk]; rfl
        have hf : poF s k = [] := by unfold poF; rw [ho]; rfl
        rw [ho, hf]
        exact scaled_no v s k w h (by simp [inB] at hk; omega))
    obtain ⟨L, hL⟩ : ∃ L, L = poF s k := ⟨_, rfl⟩
    obtain ⟨q, hq⟩ : ∃ q, q = poOk s k := ⟨_, rfl⟩
    rw [← hL, ← hq] at HSC ⊢
    clear hok hs hL hq hv hl
    go_enter Try.func12, Try.ntmps12
    go_wp2_with fail
    refine (HP.out).mono ?_
    rintro e w1 ⟨rfl, hb⟩
    have HB1 := Lib.hid hb
    clear hb
    go_wp2_with fail
    refine (HSC.out _ (HV.out.below HB1.out)).mono ?_
    rintro e w2 ⟨v2, rfl, ho2, hb2⟩
    have HB2 := Lib.hid (joins HB1.out hb2)
    have HO2 := Lib.hid (OwnG.mono ho2 HB1.out.size)
    clear ho2 hb2
    go_wp2_with fail
    go_returns
    exact ⟨_, rfl, HO2.out, HB2.out⟩
end Go.Proofs.Ytoehehaeanepmab
