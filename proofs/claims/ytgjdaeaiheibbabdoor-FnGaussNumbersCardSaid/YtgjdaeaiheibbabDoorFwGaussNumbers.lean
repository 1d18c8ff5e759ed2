/- The walk of the law FnGaussNumbers. -/
import Derived.Test.YtgjdaeaiheibbabDoorCurG
import Derived.Test.YtgjdaeaiheibbabDoorLwH
import Derived.Test.YtgjdaeaiheibbabDoorFmG
import Derived.Test.YtgjdaeaiheibbabDoorIGt
import Derived.Deep.Cut
import Derived.Test.YtgjdaeaiheibbabDoorRgA
namespace Go.Proofs.YtgjdaeaiheibbabDoor
set_option maxRecDepth 100000
open Go.RowKit

theorem alloc_bel (w : World) (o : Obj) : Below w.heap.size w (w.alloc o) := belowa (Below.refl _ _) o
theorem at_nextG {w u : World} {o : Obj} {off : Nat} {v : Value} (h : u.cell? ⟨(w.alloc o).heap.size, off, none⟩ = some v) : u.cell? ⟨w.heap.size + 1, off, none⟩ = some v := by
  have e : (w.alloc o).heap.size = w.heap.size + 1 := by simp
  rwa [e] at h
theorem BS.below {w w' : World} {v : Value} {l : List Int} (h : BS w v l) (hb : Below w.heap.size w w') : BS w' v l := h.grown (grown_of_below hb none) (fun _ k _ e => by cases e)
set_option maxRecDepth 100000 in
set_option maxHeartbeats 16000000 in
theorem gaussNumbers_law (w : World) (va vb : Value) (la lb : List Int) (ha : BS w va la) (hb0 : BS w vb lb) (htab : Lib.TabIs Tryd.prog w "internal/strconv.uint64pow10" .u64 Lib.pow10Tab) : Calls Tryd.prog 3 #[va, vb] w (Ret w (.bool true)) := by
  have B0 := Lib.hid (Below.refl w.heap.size w)
  have O1_A := Lib.hid (ha)
  have O2_B := Lib.hid (hb0)
  cases hf : few la lb with
  | false =>
    have HB := Lib.hid (big_any va vb la lb w ha hb0)
    rw [hf] at HB
    clear ha hb0 hf htab
    go_enter Tryd.func3, Tryd.ntmps3
    go_wp2_with fail
    refine (HB.out).mono ?_
    rintro e w3 ⟨rfl, hb⟩
    have L4 := Lib.hid (hb)
    clear hb
    go_wp2_with fail
    go_returns
    exact ⟨rfl, L4.out⟩
  | true =>
    have HTAB := Lib.hid htab
    have HB := Lib.hid (big_any va vb la lb w ha hb0)
    rw [hf] at HB
    clear ha hb0 hf htab
    go_enter Tryd.func3, Tryd.ntmps3
    go_wp2_with fail
    refine (HB.out).mono ?_
    rintro e w101 ⟨rfl, hb⟩
    have L102 := Lib.hid (hb)
    clear hb
    go_wp2_with fail
    have K0_103 := Lib.hid (L102.out)
    refine (drawTimesGauss _ la _ (BS.below O1_A.out K0_103.out)).mono ?_
    rintro e w104 ⟨v0, rfl, ⟨a, b, c, d, rfl, hx⟩, hb⟩
    have L105 := Lib.hid (hb)
    clear hb
    clear hx
    have L107 := Lib.hid (joins (alloc_bel w104 (.cells #[.int .i64 a, .int .i64 b] 25)) (alloc_bel (w104.alloc (.cells #[.int .i64 a, .int .i64 b] 25)) (.cells #[.int .i64 c, .int .i64 d] 25)))
    have O108_b5 := Lib.hid (And.intro (keepa (.cells #[.int .i64 c, .int .i64 d] 25) (cell_new0 w104 (.int .i64 a) (.int .i64 b) 25)) (keepa (.cells #[.int .i64 c, .int .i64 d] 25) (cell_new1 w104 (.int .i64 a) (.int .i64 b) 25)))
    have O109_b6 := Lib.hid (And.intro (at_nextG (cell_new0 (w104.alloc (.cells #[.int .i64 a, .int .i64 b] 25)) (.int .i64 c) (.int .i64 d) 25)) (at_nextG (cell_new1 (w104.alloc (.cells #[.int .i64 a, .int .i64 b] 25)) (.int .i64 c) (.int .i64 d) 25)))
    obtain ⟨P, hP⟩ : ∃ x, x = timesX a b c d := ⟨_, rfl⟩
    obtain ⟨Q, hQ⟩ : ∃ x, x = timesY a b c d := ⟨_, rfl⟩
    obtain ⟨ok, hok⟩ : ∃ x, x = timesB a b c d := ⟨_, rfl⟩
    obtain ⟨M, hM⟩ : ∃ x, x = plusX a b c d := ⟨_, rfl⟩
    obtain ⟨N, hN⟩ : ∃ x, x = plusY a b c d := ⟨_, rfl⟩
    obtain ⟨op, hop⟩ : ∃ x, x = plusB a b c d := ⟨_, rfl⟩
    have H1 := Lib.hid (fun w => itimes a b c d w)
    have H2 := Lib.hid (fun w => stimes a b c d w)
    have H3 := Lib.hid (fun w => iplus a b c d w)
    have H4 := Lib.hid (fun w => splus a b c d w)
    rw [← hP, ← hQ, ← hok] at H1 H2
    rw [← hM, ← hN, ← hop] at H3 H4
    have HP := Lib.hid (And.intro hP (And.intro hQ hok))
    clear hP hQ hok hM hN hop
    have ⟨p110, q110⟩ := O108_b5.out
    have ⟨p111, q111⟩ := O109_b6.out
    go_wp2_with fail
    clear p110 q110 p111 q111
    refine (H1.out _).mono ?_
    rintro e w112 ⟨rfl, hb⟩
    have L113 := Lib.hid (hb)
    clear hb
    have L115 := Lib.hid (alloc_bel w112 (.cells #[.int .i64 P, .int .i64 Q] 25))
    have O116_b7 := Lib.hid (And.intro (cell_new0 w112 (.int .i64 P) (.int .i64 Q) 25) (cell_new1 w112 (.int .i64 P) (.int .i64 Q) 25))
    have K3_117 := Lib.hid (joins (L113.out) L115.out)
    have ⟨p118, q118⟩ := (And.intro (keepc K3_117.out O108_b5.out.1) (keepc K3_117.out O108_b5.out.2))
    have ⟨p119, q119⟩ := (And.intro (keepc K3_117.out O109_b6.out.1) (keepc K3_117.out O109_b6.out.2))
    go_wp2_with fail
    clear p118 q118 p119 q119
    refine (H2.out _).mono ?_
    rintro e w120 ⟨rfl, hb⟩
    have L121 := Lib.hid (hb)
    clear hb
    have L123 := Lib.hid (alloc_bel w120 (.cells #[.int .i64 P, .int .i64 Q] 25))
    have O124_b9 := Lib.hid (And.intro (cell_new0 w120 (.int .i64 P) (.int .i64 Q) 25) (cell_new1 w120 (.int .i64 P) (.int .i64 Q) 25))
    have K3_125 := Lib.hid (joins (joins (K3_117.out) L121.out) L123.out)
    have ⟨p126, q126⟩ := (And.intro (keepc K3_125.out O108_b5.out.1) (keepc K3_125.out O108_b5.out.2))
    have ⟨p127, q127⟩ := (And.intro (keepc K3_125.out O109_b6.out.1) (keepc K3_125.out O109_b6.out.2))
    go_wp2_with fail
    clear p126 q126 p127 q127
    refine (H3.out _).mono ?_
    rintro e w128 ⟨rfl, hb⟩
    have L129 := Lib.hid (hb)
    clear hb
    have L131 := Lib.hid (alloc_bel w128 (.cells #[.int .i64 M, .int .i64 N] 25))
    have O132_b11 := Lib.hid (And.intro (cell_new0 w128 (.int .i64 M) (.int .i64 N) 25) (cell_new1 w128 (.int .i64 M) (.int .i64 N) 25))
    have K3_133 := Lib.hid (joins (joins (K3_125.out) L129.out) L131.out)
    have ⟨p134, q134⟩ := (And.intro (keepc K3_133.out O108_b5.out.1) (keepc K3_133.out O108_b5.out.2))
    have ⟨p135, q135⟩ := (And.intro (keepc K3_133.out O109_b6.out.1) (keepc K3_133.out O109_b6.out.2))
    go_wp2_with fail
    clear p134 q134 p135 q135
    refine (H4.out _).mono ?_
    rintro e w136 ⟨rfl, hb⟩
    have L137 := Lib.hid (hb)
    clear hb
    have L139 := Lib.hid (alloc_bel w136 (.cells #[.int .i64 M, .int .i64 N] 25))
    have O140_b13 := Lib.hid (And.intro (cell_new0 w136 (.int .i64 M) (.int .i64 N) 25) (cell_new1 w136 (.int .i64 M) (.int .i64 N) 25))
    have K5_141 := Lib.hid (joins (joins (joins (joins (joins (L121.out) L123.out) L129.out) L131.out) L137.out) L139.out)
    have ⟨p142, q142⟩ := (And.intro (keepc K5_141.out O116_b7.out.1) (keepc K5_141.out O116_b7.out.2))
    have K7_143 := Lib.hid (joins (joins (joins (L129.out) L131.out) L137.out) L139.out)
    have ⟨p144, q144⟩ := (And.intro (keepc K7_143.out O124_b9.out.1) (keepc K7_143.out O124_b9.out.2))
    have K9_145 := Lib.hid (joins (L137.out) L139.out)
    have ⟨p146, q146⟩ := (And.intro (keepc K9_145.out O132_b11.out.1) (keepc K9_145.out O132_b11.out.2))
    have ⟨p147, q147⟩ := O140_b13.out
    go_upto_region 10 with fail
    clear p142 q142 p144 q144 p146 q146 p147 q147
    obtain ⟨x148, hx148⟩ : ∃ y, y = (w136.alloc (.cells #[.int .i64 M, .int .i64 N] 25)) := ⟨_, rfl⟩
    rw [← hx148]
    have Ex148 := Lib.hid hx148
    clear hx148
    go_cut [106] from 51 (fun v w' => v = .bool (good a b && good c d) ∧ Below x148.heap.size x148 w')
    case first =>
      have K3_201 := Lib.hid (joins (joins (K3_133.out) L137.out) L139.out)
      have k5 := (And.intro (keepc K3_201.out O108_b5.out.1) (keepc K3_201.out O108_b5.out.2))
      have k6 := (And.intro (keepc K3_201.out O109_b6.out.1) (keepc K3_201.out O109_b6.out.2))
      rw [← Ex148.out] at k5 k6
      obtain ⟨k50, k51⟩ := k5
      obtain ⟨k60, k61⟩ := k6
      have HG1 := Lib.hid (fun w => igood a b w)
      have HG2 := Lib.hid (fun w => igood c d w)
      cases hga : good a b with
      | true =>
        rw [hga] at HG1
        have HGA := Lib.hid hga
        clear hga
        go_wp2_with fail
        refine (HG1.out _).mono ?_
        rintro e y1 ⟨rfl, hb1⟩
        have k60 := keepc hb1 k60
        have k61 := keepc hb1 k61
        have HB1 := Lib.hid hb1
        clear hb1
        go_wp2_with fail
        refine (HG2.out _).mono ?_
        rintro e y2 ⟨rfl, hb2⟩
        have HB2 := Lib.hid (joins HB1.out hb2)
        clear hb2
        go_wp2_with fail
        go_meet
        case rel => exact ⟨by rw [HGA.out]; rfl, HB2.out⟩
      | false =>
        rw [hga] at HG1
        have HGA := Lib.hid hga
        clear hga
        go_wp2_with fail
        refine (HG1.out _).mono ?_
        rintro e y1 ⟨rfl, hb1⟩
        have HB1 := Lib.hid hb1
        clear hb1
        go_wp2_with fail
        go_meet
        case rel => exact ⟨by rw [HGA.out]; rfl, HB1.out⟩
    case rest =>
      obtain ⟨hv, hcut⟩ := hcut
      subst hv
      obtain ⟨gv, hgv⟩ : ∃ x, x = (good a b && good c d) := ⟨_, rfl⟩
      rw [← hgv]
      have HGV := Lib.hid hgv
      clear hgv
      rw [Ex148.out] at hcut
      have L301 := Lib.hid (hcut)
      clear hcut
      have K0_302 := Lib.hid (joins (joins (joins (joins (joins (joins (joins (joins (joins (joins (joins (K0_103.out) L105.out) L107.out) L113.out) L115.out) L121.out) L123.out) L129.out) L131.out) L137.out) L139.out) L301.out)
      have P303_B := Lib.hid (BS.below O2_B.out K0_302.out)
      have K3_304 := Lib.hid (joins (joins (joins (K3_133.out) L137.out) L139.out) L301.out)
      have P305_b5 := Lib.hid (And.intro (keepc K3_304.out O108_b5.out.1) (keepc K3_304.out O108_b5.out.2))
      have P306_b6 := Lib.hid (And.intro (keepc K3_304.out O109_b6.out.1) (keepc K3_304.out O109_b6.out.2))
      have K5_307 := Lib.hid (joins (K5_141.out) L301.out)
      have P308_b7 := Lib.hid (And.intro (keepc K5_307.out O116_b7.out.1) (keepc K5_307.out O116_b7.out.2))
      have B309 := Lib.hid K0_302.out
      clear O1_A O2_B O108_b5 O109_b6 O116_b7 O124_b9 O132_b11 O140_b13 L102 L105 L107 L113 L115 L121 L123 L129 L131 L137 L139 L301 K0_302 K3_133 K5_141 K7_143 K9_145 K3_117 K3_125 K0_103 K3_304 K5_307 H1 H2 H3 H4 B0 HB
      go_upto_if 106 with fail
      go_cut [] from 51 (fun w' => Below wc.heap.size wc w')
      case first =>
        as_aux_lemma =>
          cases gv with
          | false =>
            go_wp2_with fail
            go_meet
            case rel => exact Below.refl _ _
          | true =>
            obtain ⟨hg1, hg2⟩ : good a b = true ∧ good c d = true := by have h := HGV.out.symm; rwa [Bool.and_eq_true] at h
            have e1 : cnX a b = a := if_pos hg1
            have e2 : cnY a b = -b := if_pos hg1
            have e3 : cnX c d = c := if_pos hg2
            have e4 : cnY c d = -d := if_pos hg2
            have J1 := Lib.hid (fun w => iconj a b w)
            have J2 := Lib.hid (fun w => iconj c d w)
            have J3 := Lib.hid (fun w => inorm a b w)
            have J4 := Lib.hid (fun w => inorm c d w)
            rw [e1, e2, hg1] at J1
            rw [e3, e4, hg2] at J2
            rw [hg1] at J3
            rw [hg2] at J4
            have HT1 := Lib.hid (fun h => times_turned hg1 hg2 h)
            have HT2 := Lib.hid (fun h => times_bars hg1 hg2 h)
            have HT3 := Lib.hid (fun h => times_norm hg1 hg2 h)
            have HT4 := Lib.hid (fun h => times_own hg1 h)
            have K4 := Lib.hid (fun w => itimes a b a (-b) w)
            obtain ⟨m, hm⟩ : ∃ x, x = nmV a b := ⟨_, rfl⟩
            obtain ⟨n, hn⟩ : ∃ x, x = nmV c d := ⟨_, rfl⟩
            obtain ⟨U, hU⟩ : ∃ x, x = timesX a b a (-b) := ⟨_, rfl⟩
            obtain ⟨V, hV⟩ : ∃ x, x = timesY a b a (-b) := ⟨_, rfl⟩
            obtain ⟨ten, hten⟩ : ∃ x, x = timesB a b a (-b) := ⟨_, rfl⟩
            rw [← hm] at J3 HT3 HT4
            rw [← hn] at J4 HT3
            rw [← hU, ← hV, ← hten] at K4 HT4
            clear e1 e2 e3 e4 hg1 hg2 hm hn hU hV hten
            have ⟨p310, q310⟩ := P305_b5.out
            go_wp2_with fail
            clear p310 q310
            refine (J1.out _).mono ?_
            rintro e w311 ⟨rfl, hb⟩
            have L312 := Lib.hid (hb)
            clear hb
            have L314 := Lib.hid (alloc_bel w311 (.cells #[.int .i64 a, .int .i64 (-b)] 25))
            have O315_b15 := Lib.hid (And.intro (cell_new0 w311 (.int .i64 a) (.int .i64 (-b)) 25) (cell_new1 w311 (.int .i64 a) (.int .i64 (-b)) 25))
            have K1_316 := Lib.hid (joins (L312.out) L314.out)
            have ⟨p317, q317⟩ := (And.intro (keepc K1_316.out P306_b6.out.1) (keepc K1_316.out P306_b6.out.2))
            go_wp2_with fail
            clear p317 q317
            refine (J2.out _).mono ?_
            rintro e w318 ⟨rfl, hb⟩
            have L319 := Lib.hid (hb)
            clear hb
            have L321 := Lib.hid (alloc_bel w318 (.cells #[.int .i64 c, .int .i64 (-d)] 25))
            have O322_b17 := Lib.hid (And.intro (cell_new0 w318 (.int .i64 c) (.int .i64 (-d)) 25) (cell_new1 w318 (.int .i64 c) (.int .i64 (-d)) 25))
            have K1_323 := Lib.hid (joins (joins (K1_316.out) L319.out) L321.out)
            have ⟨p324, q324⟩ := (And.intro (keepc K1_323.out P305_b5.out.1) (keepc K1_323.out P305_b5.out.2))
            go_wp2_with fail
            clear p324 q324
            refine (J3.out _).mono ?_
            rintro e w325 ⟨rfl, hb⟩
            have L326 := Lib.hid (hb)
            clear hb
            have K1_327 := Lib.hid (joins (K1_323.out) L326.out)
            have ⟨p328, q328⟩ := (And.intro (keepc K1_327.out P306_b6.out.1) (keepc K1_327.out P306_b6.out.2))
            go_wp2_with fail
            clear p328 q328
            refine (J4.out _).mono ?_
            rintro e w329 ⟨rfl, hb⟩
            have L330 := Lib.hid (hb)
            clear hb
            go_upto_if 141 with fail
            go_cut [] from 51 (fun w' => Below w329.heap.size w329 w')
            case first =>
              as_aux_lemma =>
                cases ok with
                | false =>
                  go_wp2_with fail
                  go_meet
                  case rel => exact Below.refl _ _
                | true =>
                  obtain ⟨hP, hQ, hok⟩ := HP.out
                  obtain ⟨t1, t2, t3⟩ := HT1.out hok.symm
                  obtain ⟨t4, t5, t6⟩ := HT2.out hok.symm
                  obtain ⟨t7, t8, t9, t10⟩ := HT3.out hok.symm
                  have K1 := Lib.hid (fun w => itimes c d a b w)
                  have K2 := Lib.hid (fun w => itimes a (-b) c (-d) w)
                  have K3 := Lib.hid (fun w => inorm P Q w)
                  rw [← hP, ← hQ] at t7 t8
                  rw [t1, t2, t3, ← hP, ← hQ] at K1
                  rw [t4, t5, t6, ← hP, ← hQ] at K2
                  rw [t7, t8] at K3
                  have KB := Lib.hid (fun w => cBar_any P Q (good_parts t7).2 w)
                  have hmul : wrap64 (m * n) = m * n := IntWalk.wrap64_in _ ⟨by omega, by omega⟩
                  obtain ⟨Z, hZ⟩ : ∃ x, x = m * n := ⟨_, rfl⟩
                  rw [← hZ] at K3
                  have HMUL := Lib.hid (hmul.trans hZ.symm)
                  clear hP hQ hok t1 t2 t3 t4 t5 t6 t7 t8 t9 t10 hmul hZ
                  have K1_331 := Lib.hid (joins (K1_327.out) L330.out)
                  have ⟨p332, q332⟩ := (And.intro (keepc K1_331.out P306_b6.out.1) (keepc K1_331.out P306_b6.out.2))
                  have ⟨p333, q333⟩ := (And.intro (keepc K1_331.out P305_b5.out.1) (keepc K1_331.out P305_b5.out.2))
                  go_wp2_with fail
                  clear p332 q332 p333 q333
                  refine (K1.out _).mono ?_
                  rintro e w334 ⟨rfl, hb⟩
                  have L335 := Lib.hid (hb)
                  clear hb
                  have L337 := Lib.hid (alloc_bel w334 (.cells #[.int .i64 P, .int .i64 Q] 25))
                  have O338_b23 := Lib.hid (And.intro (cell_new0 w334 (.int .i64 P) (.int .i64 Q) 25) (cell_new1 w334 (.int .i64 P) (.int .i64 Q) 25))
                  have K3_339 := Lib.hid (joins (joins (joins (joins (joins (L319.out) L321.out) L326.out) L330.out) L335.out) L337.out)
                  have ⟨p340, q340⟩ := (And.intro (keepc K3_339.out O315_b15.out.1) (keepc K3_339.out O315_b15.out.2))
                  have K5_341 := Lib.hid (joins (joins (joins (L326.out) L330.out) L335.out) L337.out)
                  have ⟨p342, q342⟩ := (And.intro (keepc K5_341.out O322_b17.out.1) (keepc K5_341.out O322_b17.out.2))
                  go_wp2_with fail
                  clear p340 q340 p342 q342
                  refine (K2.out _).mono ?_
                  rintro e w343 ⟨rfl, hb⟩
                  have L344 := Lib.hid (hb)
                  clear hb
                  have L346 := Lib.hid (alloc_bel w343 (.cells #[.int .i64 P, .int .i64 (-Q)] 25))
                  have O347_b25 := Lib.hid (And.intro (cell_new0 w343 (.int .i64 P) (.int .i64 (-Q)) 25) (cell_new1 w343 (.int .i64 P) (.int .i64 (-Q)) 25))
                  have K1_348 := Lib.hid (joins (joins (joins (joins (K1_331.out) L335.out) L337.out) L344.out) L346.out)
                  have ⟨p349, q349⟩ := (And.intro (keepc K1_348.out P308_b7.out.1) (keepc K1_348.out P308_b7.out.2))
                  go_wp2_with fail
                  clear p349 q349
                  refine (K3.out _).mono ?_
                  rintro e w350 ⟨rfl, hb⟩
                  have L351 := Lib.hid (hb)
                  clear hb
                  go_wp2_with fail
                  have K1_352 := Lib.hid (joins (K1_348.out) L351.out)
                  have ⟨p353, q353⟩ := (And.intro (keepc K1_352.out P308_b7.out.1) (keepc K1_352.out P308_b7.out.2))
                  have K9_354 := Lib.hid (joins (joins (L344.out) L346.out) L351.out)
                  have ⟨p355, q355⟩ := (And.intro (keepc K9_354.out O338_b23.out.1) (keepc K9_354.out O338_b23.out.2))
                  have K11_356 := Lib.hid (L351.out)
                  have ⟨p357, q357⟩ := (And.intro (keepc K11_356.out O347_b25.out.1) (keepc K11_356.out O347_b25.out.2))
                  refine wp_region_all (aF := ?aFR21) [none, none, none, none, none, none, none, none, none, none, none, none, none, none, none, none, none, none, none, none, none, none, none, none, none, none, none, none, none, none, none, none, none, none, none, none, none, none, none, none, none, none, none, none, none, none, none, none, none, none, none, none, none, none, none, none, none, none, none, none, none, none, none, none, none, none, none, none, none, none, none, none, none, none, none, none, none, none, none, none, none, none, none, none, none, none, none, none, none, none, none, none, none, none, none, none, none, none, none, none, none, none, none, none, none, none, none, none, none, none, none, none, none, none, none, none, none, none, none, none, none, none, none, none, none, none, none, none, none, none, none, none, none, none, none, none, none, none, none, none, none, none, none, none, none, none, none, none, none, none, none, none, none, none, none, none, none, none, none, some (.bool true), some (.bool false), some (.bool false), some (.agg #[.int .i64 P, .int .i64 Q]), some (.agg #[.int .i64 P, .int .i64 Q]), some (.bool false), some (.bool false), some (.bool false), some (.bool true), some (.bool false), some (.bool false), some (.bool false), some (.agg #[.int .i64 P, .int .i64 (-Q)]), some (.agg #[.int .i64 P, .int .i64 Q]), some (.agg #[.int .i64 P, .int .i64 (-Q)]), some (.bool false), some (.bool false), some (.bool false), some (.bool true), some (.bool false), some (.bool false), some (.bool false), some (.int .i64 Z), some (.int .i64 m), some (.int .i64 n), some (.int .i64 Z), some (.bool false), some (.bool false), none, none, none, none, none, none, none, none, none, none, none, none, none, none, none, none, none, none, none, none, none, none, none, none, none, none, none, none, none, none, none, none, none, none, none, none, none, none, none, none, none, none, none, none, none, none, none, none, none, none, none, none, none, none, none, none, none, none, none, none, none, none, none, none, none, none, none, none, none, none, none, none, none, none, none, none, none, none, none, none, none, none, none, none, none, none, none, none, none, none, none, none, none, none, none, none, none, none, none, none, none, none, none, none, none, none, none, none, none, none, none, none, none, none, none, none, none, none, none, none, none, none, none, none, none, none] (fun w' => w'.cell? ⟨w112.heap.size, 0, none⟩ = some (.int .i64 P) ∧ w'.cell? ⟨w112.heap.size, 1, none⟩ = some (.int .i64 Q) ∧ w'.cell? ⟨w334.heap.size, 0, none⟩ = some (.int .i64 P) ∧ w'.cell? ⟨w334.heap.size, 1, none⟩ = some (.int .i64 Q) ∧ w'.cell? ⟨w343.heap.size, 0, none⟩ = some (.int .i64 P) ∧ w'.cell? ⟨w343.heap.size, 1, none⟩ = some (.int .i64 (-Q)) ∧ Below w350.heap.size w350 w') (by kernel_rfl) ?haFR21 ?hBR21 ?hSR21 ?hYR21 ?hQR21
                  case haFR21 =>
                    dsimp only [actF, updL]
                    rfl
                  case hBR21 => kernel_rfl
                  case hSR21 => exact ⟨keepd p353, keepd q353, keepd p355, keepd q355, keepd p357, keepd q357, belowN (Below.refl _ _) 1⟩
                  case hYR21 =>
                    refine And.intro ?_ ?_
                    · exact Or.inl ⟨by rfl, fun w _ => Or.inl (by rfl)⟩
                    refine And.intro ?_ ?_
                    · exact Or.inl ⟨by rfl, fun w _ => Or.inl (by rfl)⟩
                    refine And.intro ?_ ?_
                    · exact Or.inl ⟨by rfl, fun w _ => Or.inl (by rfl)⟩
                    refine And.intro ?_ ?_
                    · exact Or.inl ⟨by rfl, fun w h => Or.inl (by obtain ⟨h0, h1, h2, h3, h4, h5, h6⟩ := h; go_simp)⟩
                    refine And.intro ?_ ?_
                    · exact Or.inl ⟨by rfl, fun w h => Or.inl (by obtain ⟨h0, h1, h2, h3, h4, h5, h6⟩ := h; go_simp)⟩
                    refine And.intro ?_ ?_
                    · exact Or.inl ⟨by rfl, fun w _ => Or.inl (by go_simp)⟩
                    refine And.intro ?_ ?_
                    · exact Or.inl ⟨by rfl, fun w _ => Or.inl (by rfl)⟩
                    refine And.intro ?_ ?_
                    · exact Or.inl ⟨by rfl, fun w _ => Or.inl (by rfl)⟩
                    refine And.intro ?_ ?_
                    · exact Or.inl ⟨by rfl, fun w _ => Or.inl (by rfl)⟩
                    refine And.intro ?_ ?_
                    · exact Or.inl ⟨by rfl, fun w _ => Or.inl (by rfl)⟩
                    refine And.intro ?_ ?_
                    · exact Or.inl ⟨by rfl, fun w _ => Or.inl (by rfl)⟩
                    refine And.intro ?_ ?_
                    · exact Or.inl ⟨by rfl, fun w _ => Or.inl (by rfl)⟩
                    refine And.intro ?_ ?_
                    · exact Or.inl ⟨by rfl, fun w h => Or.inl (by obtain ⟨h0, h1, h2, h3, h4, h5, h6⟩ := h; go_simp)⟩
                    refine And.intro ?_ ?_
                    · exact Or.inl ⟨by rfl, fun w h => Or.inl (by obtain ⟨h0, h1, h2, h3, h4, h5, h6⟩ := h; go_simp)⟩
                    refine And.intro ?_ ?_
                    · refine Or.inl ⟨by rfl, fun w h => Or.inr ⟨13, #[.agg #[.int .i64 P, .int .i64 Q]], by go_simp, ?_⟩⟩
                      obtain ⟨h0, h1, h2, h3, h4, h5, h6⟩ := h
                      exact (KB.out _).mono (fun e w' he => by obtain ⟨rfl, hb⟩ := he; exact ⟨rfl, keepc hb h0, keepc hb h1, keepc hb h2, keepc hb h3, keepc hb h4, keepc hb h5, joins h6 hb⟩)
                    refine And.intro ?_ ?_
                    · exact Or.inl ⟨by rfl, fun w _ => Or.inl (by go_simp)⟩
                    refine And.intro ?_ ?_
                    · exact Or.inl ⟨by rfl, fun w _ => Or.inl (by rfl)⟩
                    refine And.intro ?_ ?_
                    · exact Or.inl ⟨by rfl, fun w _ => Or.inl (by rfl)⟩
                    refine And.intro ?_ ?_
                    · exact Or.inl ⟨by rfl, fun w _ => Or.inl (by rfl)⟩
                    refine And.intro ?_ ?_
                    · exact Or.inl ⟨by rfl, fun w _ => Or.inl (by rfl)⟩
                    refine And.intro ?_ ?_
                    · exact Or.inl ⟨by rfl, fun w _ => Or.inl (by rfl)⟩
                    refine And.intro ?_ ?_
                    · exact Or.inl ⟨by rfl, fun w _ => Or.inl (by rfl)⟩
                    refine And.intro ?_ ?_
                    · exact Or.inl ⟨by rfl, fun w _ => Or.inl (by rfl)⟩
                    refine And.intro ?_ ?_
                    · exact Or.inl ⟨by rfl, fun w _ => Or.inl (by rfl)⟩
                    refine And.intro ?_ ?_
                    · exact Or.inl ⟨by rfl, fun w _ => Or.inl (by rfl)⟩
                    refine And.intro ?_ ?_
                    · exact Or.inl ⟨by rfl, fun w _ => Or.inl (by go_simp; exact (IntWalk.i64_left _).trans HMUL.out)⟩
                    refine And.intro ?_ ?_
                    · exact Or.inl ⟨by rfl, fun w _ => Or.inl (by go_simp)⟩
                    refine And.intro ?_ ?_
                    · exact Or.inl ⟨by rfl, fun w _ => Or.inl (by rfl)⟩
                    exact trivial
                  case hQR21 =>
                    intro wq hS
                    have HSB := hS.2.2.2.2.2.2
                    clear hS
                    have L358 := Lib.hid (HSB)
                    clear HSB
                    go_wp2_with fail
                    have K7_359 := Lib.hid (joins (joins (joins (joins (joins (L335.out) L337.out) L344.out) L346.out) L351.out) L358.out)
                    go_meet
                    case rel => exact K7_359.out
            case rest =>
              have L601 := Lib.hid (hcut)
              clear hcut
              have K1_602 := Lib.hid (joins (joins (K1_327.out) L330.out) L601.out)
              have ⟨p603, q603⟩ := (And.intro (keepc K1_602.out P305_b5.out.1) (keepc K1_602.out P305_b5.out.2))
              have K3_604 := Lib.hid (joins (joins (joins (joins (L319.out) L321.out) L326.out) L330.out) L601.out)
              have ⟨p605, q605⟩ := (And.intro (keepc K3_604.out O315_b15.out.1) (keepc K3_604.out O315_b15.out.2))
              go_wp2_with fail
              clear p603 q603 p605 q605
              refine (K4.out _).mono ?_
              rintro e w606 ⟨rfl, hb⟩
              have L607 := Lib.hid (hb)
              clear hb
              have L609 := Lib.hid (alloc_bel w606 (.cells #[.int .i64 U, .int .i64 V] 25))
              have O610_b29 := Lib.hid (And.intro (cell_new0 w606 (.int .i64 U) (.int .i64 V) 25) (cell_new1 w606 (.int .i64 U) (.int .i64 V) 25))
              cases ten with
              | false =>
                go_wp2_with fail
                have K1_611 := Lib.hid (joins (joins (K1_602.out) L607.out) L609.out)
                go_meet
                case rel => exact K1_611.out
              | true =>
                obtain ⟨u1, u2⟩ := HT4.out rfl
                subst u1
                subst u2
                have ⟨p611, q611⟩ := O610_b29.out
                go_wp2_with fail
                clear p611 q611
                have K1_612 := Lib.hid (joins (joins (K1_602.out) L607.out) L609.out)
                go_meet
                case rel => exact K1_612.out
      case rest =>
        have L801 := Lib.hid (hcut)
        clear hcut
        have K0_802 := Lib.hid (joins (B309.out) L801.out)
        have K1_803 := Lib.hid (L801.out)
        have P804_B := Lib.hid (BS.below P303_B.out K1_803.out)
        have B805 := Lib.hid K0_802.out
        clear P303_B P305_b5 P306_b6 P308_b7 B309 L801 K0_802 K1_803 HP HGV
        go_wp2_with fail
        refine (drawPhaseValue _ lb _ P804_B.out).mono ?_
        rintro e w806 ⟨v0, rfl, ⟨k, rfl, hk0, hk1⟩, hb⟩
        have L807 := Lib.hid (hb)
        clear hb
        obtain ⟨X, hX⟩ : ∃ x, x = pvx k := ⟨_, rfl⟩
        obtain ⟨Y, hY⟩ : ∃ x, x = pvy k := ⟨_, rfl⟩
        obtain ⟨told, htold⟩ : ∃ x, x = pvOk k := ⟨_, rfl⟩
        have A1 := Lib.hid (fun w => iphaseValue_any k w)
        have A2 := Lib.hid (fun w => sphaseValue_any k w)
        rw [← hX, ← hY, ← htold] at A1 A2
        have HXY := Lib.hid (And.intro hX (And.intro hY htold))
        clear hX hY htold
        go_wp2_with fail
        refine (A1.out _).mono ?_
        rintro e w808 ⟨rfl, hb⟩
        have L809 := Lib.hid (hb)
        clear hb
        have L811 := Lib.hid (alloc_bel w808 (.cells #[.int .i64 X, .int .i64 Y] 25))
        have O812_b32 := Lib.hid (And.intro (cell_new0 w808 (.int .i64 X) (.int .i64 Y) 25) (cell_new1 w808 (.int .i64 X) (.int .i64 Y) 25))
        go_wp2_with fail
        refine (A2.out _).mono ?_
        rintro e w813 ⟨rfl, hb⟩
        have L814 := Lib.hid (hb)
        clear hb
        have L816 := Lib.hid (alloc_bel w813 (.cells #[.int .i64 X, .int .i64 Y] 25))
        have O817_b34 := Lib.hid (And.intro (cell_new0 w813 (.int .i64 X) (.int .i64 Y) 25) (cell_new1 w813 (.int .i64 X) (.int .i64 Y) 25))
        go_wp2_with fail
        have K1_818 := Lib.hid (joins (joins (joins (joins (L807.out) L809.out) L811.out) L814.out) L816.out)
        refine (drawGaussText _ lb _ (BS.below P804_B.out K1_818.out)).mono ?_
        rintro e w819 ⟨v0, rfl, ⟨e, f, rfl, hx1, hx2⟩, hb⟩
        have L820 := Lib.hid (hb)
        clear hb
        have L822 := Lib.hid (alloc_bel w819 (.cells #[.int .i64 e, .int .i64 f] 25))
        have O823_b36 := Lib.hid (And.intro (cell_new0 w819 (.int .i64 e) (.int .i64 f) 25) (cell_new1 w819 (.int .i64 e) (.int .i64 f) 25))
        clear hx1 hx2
        obtain ⟨gt, hgt⟩ : ∃ x, x = good e f := ⟨_, rfl⟩
        have hgz : goodZ e f = gt := hgt.symm
        obtain ⟨tx, htx⟩ : ∃ x, x = gtF e f := ⟨_, rfl⟩
        obtain ⟨nv, hnv⟩ : ∃ x, x = nmV e f := ⟨_, rfl⟩
        obtain ⟨p, hp⟩ : ∃ x, x = cnX e f := ⟨_, rfl⟩
        obtain ⟨q, hq⟩ : ∃ x, x = cnY e f := ⟨_, rfl⟩
        have A3 := Lib.hid (fun w' (hb : Below w.heap.size w w') => igaussText e f w' (Joins.tab_stays pow10_at HTAB.out hb (Nat.le_refl _)))
        have A4 := Lib.hid (fun w => sgaussText e f w)
        have A5 := Lib.hid (fun w => inorm e f w)
        have A6 := Lib.hid (fun w => snorm e f w)
        have A7 := Lib.hid (fun w => iconj e f w)
        have A8 := Lib.hid (fun w => sconj e f w)
        have A9 := Lib.hid (fun w => igood e f w)
        have A10 := Lib.hid (fun w => sisGauss e f w)
        simp only [hgz, ← htx] at A3 A4
        rw [← hgt, ← hnv] at A5 A6
        rw [← hgt, ← hp, ← hq] at A7 A8
        rw [← hgt] at A9 A10
        clear hgt hgz htx hnv hp hq HTAB
        have ⟨p824, q824⟩ := O823_b36.out
        go_wp2_with fail
        clear p824 q824
        have K0_825 := Lib.hid (joins (joins (joins (joins (joins (joins (joins (B805.out) L807.out) L809.out) L811.out) L814.out) L816.out) L820.out) L822.out)
        refine (A3.out _ K0_825.out).mono ?_
        rintro e w826 ⟨rfl, hb⟩
        have L827 := Lib.hid (hb)
        clear hb
        have K8_828 := Lib.hid (L827.out)
        have ⟨p829, q829⟩ := (And.intro (keepc K8_828.out O823_b36.out.1) (keepc K8_828.out O823_b36.out.2))
        go_wp2_with fail
        clear p829 q829
        refine (A4.out _).mono ?_
        rintro e w830 ⟨rfl, hb⟩
        have L831 := Lib.hid (hb)
        clear hb
        have K8_832 := Lib.hid (joins (K8_828.out) L831.out)
        have ⟨p833, q833⟩ := (And.intro (keepc K8_832.out O823_b36.out.1) (keepc K8_832.out O823_b36.out.2))
        go_wp2_with fail
        clear p833 q833
        refine (A5.out _).mono ?_
        rintro e w834 ⟨rfl, hb⟩
        have L835 := Lib.hid (hb)
        clear hb
        have K8_836 := Lib.hid (joins (K8_832.out) L835.out)
        have ⟨p837, q837⟩ := (And.intro (keepc K8_836.out O823_b36.out.1) (keepc K8_836.out O823_b36.out.2))
        go_wp2_with fail
        clear p837 q837
        refine (A6.out _).mono ?_
        rintro e w838 ⟨rfl, hb⟩
        have L839 := Lib.hid (hb)
        clear hb
        have K8_840 := Lib.hid (joins (K8_836.out) L839.out)
        have ⟨p841, q841⟩ := (And.intro (keepc K8_840.out O823_b36.out.1) (keepc K8_840.out O823_b36.out.2))
        go_wp2_with fail
        clear p841 q841
        refine (A7.out _).mono ?_
        rintro e w842 ⟨rfl, hb⟩
        have L843 := Lib.hid (hb)
        clear hb
        have L845 := Lib.hid (alloc_bel w842 (.cells #[.int .i64 p, .int .i64 q] 25))
        have O846_b45 := Lib.hid (And.intro (cell_new0 w842 (.int .i64 p) (.int .i64 q) 25) (cell_new1 w842 (.int .i64 p) (.int .i64 q) 25))
        have K8_847 := Lib.hid (joins (joins (K8_840.out) L843.out) L845.out)
        have ⟨p848, q848⟩ := (And.intro (keepc K8_847.out O823_b36.out.1) (keepc K8_847.out O823_b36.out.2))
        go_wp2_with fail
        clear p848 q848
        refine (A8.out _).mono ?_
        rintro e w849 ⟨rfl, hb⟩
        have L850 := Lib.hid (hb)
        clear hb
        have L852 := Lib.hid (alloc_bel w849 (.cells #[.int .i64 p, .int .i64 q] 25))
        have O853_b47 := Lib.hid (And.intro (cell_new0 w849 (.int .i64 p) (.int .i64 q) 25) (cell_new1 w849 (.int .i64 p) (.int .i64 q) 25))
        go_wp2_with fail
        obtain ⟨wr, hwr⟩ : ∃ x, x = (w849.alloc (.cells #[.int .i64 p, .int .i64 q] 25)) := ⟨_, rfl⟩
        have K4_854 := Lib.hid (joins (joins (joins (joins (joins (joins (joins (joins (joins (joins (joins (L814.out) L816.out) L820.out) L822.out) L827.out) L831.out) L835.out) L839.out) L843.out) L845.out) L850.out) L852.out)
        have ⟨p855, q855⟩ := (And.intro (keepc K4_854.out O812_b32.out.1) (keepc K4_854.out O812_b32.out.2))
        have K6_856 := Lib.hid (joins (joins (joins (joins (joins (joins (joins (joins (joins (L820.out) L822.out) L827.out) L831.out) L835.out) L839.out) L843.out) L845.out) L850.out) L852.out)
        have ⟨p857, q857⟩ := (And.intro (keepc K6_856.out O817_b34.out.1) (keepc K6_856.out O817_b34.out.2))
        have K8_858 := Lib.hid (joins (joins (K8_847.out) L850.out) L852.out)
        have ⟨p859, q859⟩ := (And.intro (keepc K8_858.out O823_b36.out.1) (keepc K8_858.out O823_b36.out.2))
        have K14_860 := Lib.hid (joins (L850.out) L852.out)
        have ⟨p861, q861⟩ := (And.intro (keepc K14_860.out O846_b45.out.1) (keepc K14_860.out O846_b45.out.2))
        have ⟨p862, q862⟩ := O853_b47.out
        rw [← hwr] at p855 q855 p857 q857 p859 q859 p861 q861 p862 q862 ⊢
        have HWR := Lib.hid hwr
        clear hwr
        refine wp_region_all (aF := ?aFR36) [none, none, none, none, none, none, none, none, none, none, none, none, none, none, none, none, none, none, none, none, none, none, none, none, none, none, none, none, none, none, none, none, none, none, none, none, none, none, none, none, none, none, none, none, none, none, none, none, none, none, none, none, none, none, none, none, none, none, none, none, none, none, none, none, none, none, none, none, none, none, none, none, none, none, none, none, none, none, none, none, none, none, none, none, none, none, none, none, none, none, none, none, none, none, none, none, none, none, none, none, none, none, none, none, none, none, none, none, none, none, none, none, none, none, none, none, none, none, none, none, none, none, none, none, none, none, none, none, none, none, none, none, none, none, none, none, none, none, none, none, none, none, none, none, none, none, none, none, none, none, none, none, none, none, none, none, none, none, none, none, none, none, none, none, none, none, none, none, none, none, none, none, none, none, none, none, none, none, none, none, none, none, none, none, none, none, none, none, none, none, none, none, none, none, none, none, none, none, none, none, none, none, none, none, none, none, none, none, none, none, none, none, none, none, none, none, none, none, none, none, none, none, none, none, none, none, none, none, none, none, none, none, none, none, none, none, none, none, none, none, none, none, none, none, none, none, none, none, none, some (.bool told), some (.bool told), some (.bool false), some (.bool false), some (.agg #[.int .i64 X, .int .i64 Y]), some (.agg #[.int .i64 X, .int .i64 Y]), some (.bool false), some (.bool false), some (.bool false), some (.bool gt), some (.bool gt), some (.bool false), some (.bool false), some (.bool false), some (.string tx), some (.string tx), some (.bool false), some (.bool false), some (.bool false), some (.bool gt), some (.bool gt), some (.bool false), some (.bool false), some (.bool false), some (.int .i64 nv), some (.int .i64 nv), some (.bool false), some (.bool false), some (.bool false), some (.bool gt), some (.bool gt), some (.bool false), some (.bool false), some (.bool false), some (.agg #[.int .i64 p, .int .i64 q]), some (.agg #[.int .i64 p, .int .i64 q]), some (.bool false), some (.bool false), some (.bool false), some (.bool gt), some (.agg #[.int .i64 e, .int .i64 f]), some (.bool gt), some (.bool false), some (.bool false), some (.bool false), some (.agg #[.int .i64 e, .int .i64 f]), some (.bool gt), some (.agg #[.int .i64 e, .int .i64 f]), some (.bool gt), some (.bool false), some (.bool false), none, none, none, none, none, none, none, none, none, none, none, none, none] (fun w' => w'.cell? ⟨w808.heap.size, 0, none⟩ = some (.int .i64 X) ∧ w'.cell? ⟨w808.heap.size, 1, none⟩ = some (.int .i64 Y) ∧ w'.cell? ⟨w813.heap.size, 0, none⟩ = some (.int .i64 X) ∧ w'.cell? ⟨w813.heap.size, 1, none⟩ = some (.int .i64 Y) ∧ w'.cell? ⟨w819.heap.size, 0, none⟩ = some (.int .i64 e) ∧ w'.cell? ⟨w819.heap.size, 1, none⟩ = some (.int .i64 f) ∧ w'.cell? ⟨w842.heap.size, 0, none⟩ = some (.int .i64 p) ∧ w'.cell? ⟨w842.heap.size, 1, none⟩ = some (.int .i64 q) ∧ w'.cell? ⟨w849.heap.size, 0, none⟩ = some (.int .i64 p) ∧ w'.cell? ⟨w849.heap.size, 1, none⟩ = some (.int .i64 q) ∧ Below wr.heap.size wr w') (by kernel_rfl) ?haFR36 ?hBR36 ?hSR36 ?hYR36 ?hQR36
        case haFR36 =>
          dsimp only [actF, updL]
          rfl
        case hBR36 => kernel_rfl
        case hSR36 => exact ⟨keepd p855, keepd q855, keepd p857, keepd q857, keepd p859, keepd q859, keepd p861, keepd q861, keepd p862, keepd q862, belowN (Below.refl _ _) 1⟩
        case hYR36 =>
          refine And.intro ?_ ?_
          · exact Or.inl ⟨by rfl, fun w _ => Or.inl (by rfl)⟩
          refine And.intro ?_ ?_
          · exact Or.inl ⟨by rfl, fun w _ => Or.inl (by rfl)⟩
          refine And.intro ?_ ?_
          · exact Or.inl ⟨by rfl, fun w _ => Or.inl (by go_simp)⟩
          refine And.intro ?_ ?_
          · exact Or.inl ⟨by rfl, fun w _ => Or.inl (by rfl)⟩
          refine And.intro ?_ ?_
          · exact Or.inl ⟨by rfl, fun w h => Or.inl (by obtain ⟨h0, h1, h2, h3, h4, h5, h6, h7, h8, h9, h10⟩ := h; go_simp)⟩
          refine And.intro ?_ ?_
          · exact Or.inl ⟨by rfl, fun w h => Or.inl (by obtain ⟨h0, h1, h2, h3, h4, h5, h6, h7, h8, h9, h10⟩ := h; go_simp)⟩
          refine And.intro ?_ ?_
          · exact Or.inl ⟨by rfl, fun w _ => Or.inl (by go_simp)⟩
          refine And.intro ?_ ?_
          · exact Or.inl ⟨by rfl, fun w _ => Or.inl (by rfl)⟩
          refine And.intro ?_ ?_
          · exact Or.inl ⟨by rfl, fun w _ => Or.inl (by rfl)⟩
          refine And.intro ?_ ?_
          · exact Or.inl ⟨by rfl, fun w _ => Or.inl (by rfl)⟩
          refine And.intro ?_ ?_
          · exact Or.inl ⟨by rfl, fun w _ => Or.inl (by rfl)⟩
          refine And.intro ?_ ?_
          · exact Or.inl ⟨by rfl, fun w _ => Or.inl (by go_simp)⟩
          refine And.intro ?_ ?_
          · exact Or.inl ⟨by rfl, fun w _ => Or.inl (by rfl)⟩
          refine And.intro ?_ ?_
          · exact Or.inl ⟨by rfl, fun w _ => Or.inl (by rfl)⟩
          refine And.intro ?_ ?_
          · exact Or.inl ⟨by rfl, fun w _ => Or.inl (by rfl)⟩
          refine And.intro ?_ ?_
          · exact Or.inl ⟨by rfl, fun w _ => Or.inl (by rfl)⟩
          refine And.intro ?_ ?_
          · exact Or.inl ⟨by rfl, fun w _ => Or.inl (by go_simp)⟩
          refine And.intro ?_ ?_
          · exact Or.inl ⟨by rfl, fun w _ => Or.inl (by rfl)⟩
          refine And.intro ?_ ?_
          · exact Or.inl ⟨by rfl, fun w _ => Or.inl (by rfl)⟩
          refine And.intro ?_ ?_
          · exact Or.inl ⟨by rfl, fun w _ => Or.inl (by rfl)⟩
          refine And.intro ?_ ?_
          · exact Or.inl ⟨by rfl, fun w _ => Or.inl (by rfl)⟩
          refine And.intro ?_ ?_
          · exact Or.inl ⟨by rfl, fun w _ => Or.inl (by go_simp)⟩
          refine And.intro ?_ ?_
          · exact Or.inl ⟨by rfl, fun w _ => Or.inl (by rfl)⟩
          refine And.intro ?_ ?_
          · exact Or.inl ⟨by rfl, fun w _ => Or.inl (by rfl)⟩
          refine And.intro ?_ ?_
          · exact Or.inl ⟨by rfl, fun w _ => Or.inl (by rfl)⟩
          refine And.intro ?_ ?_
          · exact Or.inl ⟨by rfl, fun w _ => Or.inl (by rfl)⟩
          refine And.intro ?_ ?_
          · exact Or.inl ⟨by rfl, fun w _ => Or.inl (by go_simp)⟩
          refine And.intro ?_ ?_
          · exact Or.inl ⟨by rfl, fun w _ => Or.inl (by rfl)⟩
          refine And.intro ?_ ?_
          · exact Or.inl ⟨by rfl, fun w _ => Or.inl (by rfl)⟩
          refine And.intro ?_ ?_
          · exact Or.inl ⟨by rfl, fun w _ => Or.inl (by rfl)⟩
          refine And.intro ?_ ?_
          · exact Or.inl ⟨by rfl, fun w _ => Or.inl (by rfl)⟩
          refine And.intro ?_ ?_
          · exact Or.inl ⟨by rfl, fun w _ => Or.inl (by go_simp)⟩
          refine And.intro ?_ ?_
          · exact Or.inl ⟨by rfl, fun w _ => Or.inl (by rfl)⟩
          refine And.intro ?_ ?_
          · exact Or.inl ⟨by rfl, fun w _ => Or.inl (by rfl)⟩
          refine And.intro ?_ ?_
          · exact Or.inl ⟨by rfl, fun w h => Or.inl (by obtain ⟨h0, h1, h2, h3, h4, h5, h6, h7, h8, h9, h10⟩ := h; go_simp)⟩
          refine And.intro ?_ ?_
          · exact Or.inl ⟨by rfl, fun w h => Or.inl (by obtain ⟨h0, h1, h2, h3, h4, h5, h6, h7, h8, h9, h10⟩ := h; go_simp)⟩
          refine And.intro ?_ ?_
          · exact Or.inl ⟨by rfl, fun w _ => Or.inl (by go_simp)⟩
          refine And.intro ?_ ?_
          · exact Or.inl ⟨by rfl, fun w _ => Or.inl (by rfl)⟩
          refine And.intro ?_ ?_
          · exact Or.inl ⟨by rfl, fun w _ => Or.inl (by rfl)⟩
          refine And.intro ?_ ?_
          · exact Or.inl ⟨by rfl, fun w _ => Or.inl (by rfl)⟩
          refine And.intro ?_ ?_
          · exact Or.inl ⟨by rfl, fun w h => Or.inl (by obtain ⟨h0, h1, h2, h3, h4, h5, h6, h7, h8, h9, h10⟩ := h; go_simp)⟩
          refine And.intro ?_ ?_
          · refine Or.inl ⟨by rfl, fun w h => Or.inr ⟨10, #[.agg #[.int .i64 e, .int .i64 f]], by go_simp, ?_⟩⟩
            obtain ⟨h0, h1, h2, h3, h4, h5, h6, h7, h8, h9, h10⟩ := h
            exact (A9.out _).mono (fun e w' he => by obtain ⟨rfl, hb⟩ := he; exact ⟨rfl, keepc hb h0, keepc hb h1, keepc hb h2, keepc hb h3, keepc hb h4, keepc hb h5, keepc hb h6, keepc hb h7, keepc hb h8, keepc hb h9, joins h10 hb⟩)
          refine And.intro ?_ ?_
          · exact Or.inl ⟨by rfl, fun w _ => Or.inl (by go_simp)⟩
          refine And.intro ?_ ?_
          · exact Or.inl ⟨by rfl, fun w _ => Or.inl (by rfl)⟩
          refine And.intro ?_ ?_
          · exact Or.inl ⟨by rfl, fun w _ => Or.inl (by rfl)⟩
          refine And.intro ?_ ?_
          · exact Or.inl ⟨by rfl, fun w h => Or.inl (by obtain ⟨h0, h1, h2, h3, h4, h5, h6, h7, h8, h9, h10⟩ := h; go_simp)⟩
          refine And.intro ?_ ?_
          · refine Or.inl ⟨by rfl, fun w h => Or.inr ⟨10, #[.agg #[.int .i64 e, .int .i64 f]], by go_simp, ?_⟩⟩
            obtain ⟨h0, h1, h2, h3, h4, h5, h6, h7, h8, h9, h10⟩ := h
            exact (A9.out _).mono (fun e w' he => by obtain ⟨rfl, hb⟩ := he; exact ⟨rfl, keepc hb h0, keepc hb h1, keepc hb h2, keepc hb h3, keepc hb h4, keepc hb h5, keepc hb h6, keepc hb h7, keepc hb h8, keepc hb h9, joins h10 hb⟩)
          refine And.intro ?_ ?_
          · exact Or.inl ⟨by rfl, fun w h => Or.inl (by obtain ⟨h0, h1, h2, h3, h4, h5, h6, h7, h8, h9, h10⟩ := h; go_simp)⟩
          refine And.intro ?_ ?_
          · refine Or.inl ⟨by rfl, fun w h => Or.inr ⟨22, #[.agg #[.int .i64 e, .int .i64 f]], by go_simp, ?_⟩⟩
            obtain ⟨h0, h1, h2, h3, h4, h5, h6, h7, h8, h9, h10⟩ := h
            exact (A10.out _).mono (fun e w' he => by obtain ⟨rfl, hb⟩ := he; exact ⟨rfl, keepc hb h0, keepc hb h1, keepc hb h2, keepc hb h3, keepc hb h4, keepc hb h5, keepc hb h6, keepc hb h7, keepc hb h8, keepc hb h9, joins h10 hb⟩)
          refine And.intro ?_ ?_
          · exact Or.inl ⟨by rfl, fun w _ => Or.inl (by go_simp)⟩
          refine And.intro ?_ ?_
          · exact Or.inl ⟨by rfl, fun w _ => Or.inl (by rfl)⟩
          exact trivial
        case hQR36 =>
          intro wq hS
          have HSB := hS.2.2.2.2.2.2.2.2.2.2
          rw [HWR.out] at HSB
          clear hS
          have L863 := Lib.hid (HSB)
          clear HSB
          have K0_864 := Lib.hid (joins (joins (joins (joins (joins (joins (joins (joins (joins (K0_825.out) L827.out) L831.out) L835.out) L839.out) L843.out) L845.out) L850.out) L852.out) L863.out)
          have K4_865 := Lib.hid (joins (K4_854.out) L863.out)
          have P866_b32 := Lib.hid (And.intro (keepc K4_865.out O812_b32.out.1) (keepc K4_865.out O812_b32.out.2))
          have B867 := Lib.hid K0_864.out
          clear P804_B O812_b32 O817_b34 O823_b36 O846_b45 O853_b47 B805 L807 L809 L811 L814 L816 L820 L822 L827 L831 L835 L839 L843 L845 L850 L852 L863 K1_818 K0_864 K8_858 K4_854 K6_856 K14_860 K8_828 K8_832 K8_836 K8_840 K8_847 K0_825 K4_865
          cases told with
          | false =>
            go_wp2_with fail
            have K0_868 := Lib.hid (B867.out)
            go_returns
            exact ⟨rfl, K0_868.out⟩
          | true =>
            obtain ⟨hX, hY, htold⟩ := HXY.out
            have hk : 0 ≤ k ∧ k ≤ 3 := by simpa [pvOk] using htold.symm
            obtain ⟨K, rfl⟩ : ∃ K : Nat, k = K := ⟨k.toNat, (Int.toNat_of_nonneg hk.1).symm⟩
            have hX2 : X = vx K := hX.trans (if_pos hk)
            have hY2 : Y = vy K := hY.trans (if_pos hk)
            have hK : K ≤ 3 := by omega
            subst hX2 hY2
            have HKK := Lib.hid hK
            clear hX hY htold hk hk0 hk1
            have hK3 : (K : Int) ≤ 3 := by omega
            have T0 := TN.new (B := 0) (W := wq) (Nat.zero_le _) (.int .i64 1) (.int .i64 0) 25
            have HT0 := Lib.hid T0
            clear T0 hK
            have K0_868 := Lib.hid (B867.out)
            have HSZ := Lib.hid (K0_868.out.size)
            have HNE := Lib.hid (show wq.heap.size ≠ w808.heap.size from Nat.ne_of_gt (cell_lt (P866_b32.out).1))
            go_wp2_with fail
            have L869 := Lib.hid (alloc_bel wq (.cells #[.int .i64 1, .int .i64 0] 25))
            have K0_870 := Lib.hid (joins (K0_868.out) L869.out)
            have K1_871 := Lib.hid (L869.out)
            have C32 := Lib.hid (And.intro (keepc K1_871.out P866_b32.out.1) (keepc K1_871.out P866_b32.out.2))
            have HBB := Lib.hid K0_870.out
            go_loopw [50] (fun i wl => ∃ j : Nat, j ≤ K ∧ i = .int .i64 j ∧ TN 0 (.int .i64 (vx j)) (.int .i64 (vy j)) wq.heap.size wl ∧ (wl.cell? ⟨w808.heap.size, 0, none⟩ = some (.int .i64 (vx K)) ∧ wl.cell? ⟨w808.heap.size, 1, none⟩ = some (.int .i64 (vy K))) ∧ Below w.heap.size w wl) (fun i _ => K - (intOf i).toNat)
            case atStart => exact ⟨0, Nat.zero_le _, rfl, HT0.out, C32.out, HBB.out⟩
            case round =>
              obtain ⟨j, hj, rfl, ht, hc, hbel⟩ := hrel
              have HT := Lib.hid ht
              have HC := Lib.hid hc
              have HL := Lib.hid hbel
              have t0 := ht.n0
              have t1 := ht.n1
              have t2 := ht.m0
              have t3 := ht.m1
              clear ht hc hbel
              by_cases hlt : j < K
              · have hlt2 : (j : Int) < (K : Int) := by omega
                have hj2 : j ≤ 2 := by have := HKK.out; omega
                have hvv := vxy_small9 j
                have KT := Lib.hid (fun w => cTimes_any (vx j) (vy j) 0 1 (by omega) (by omega) (by omega) (by omega) w)
                rw [(vxy_next j hj2).1, (vxy_next j hj2).2] at KT
                clear hvv
                go_wp2_with fail
                refine (KT.out _).mono ?_
                rintro e z1 ⟨rfl, hb⟩
                have U := HT.out.step hb
                have t0 := U.n0
                have t1 := U.n1
                have t2 := U.m0
                have t3 := U.m1
                have HU := Lib.hid U
                have HC2 := Lib.hid (And.intro (keepc hb HC.out.1) (keepc hb HC.out.2))
                have HL2 := Lib.hid (joins HL.out hb)
                clear hb U
                go_wp2_with fail
                go_roundw
                case rel => exact ⟨j + 1, by omega, by go_num, HU.out.put _ _, ⟨keeps (keeps HC2.out.1 HNE.out) HNE.out, keeps (keeps HC2.out.2 HNE.out) HNE.out⟩, belows (belows HL2.out HSZ.out _) HSZ.out _⟩
                case measure => simp [intOf]; omega
              · obtain rfl : j = K := by omega
                obtain ⟨c0, c1⟩ := HC.out
                go_wp2_with fail
                go_returns
                exact ⟨rfl, HL.out⟩
end Go.Proofs.YtgjdaeaiheibbabDoor
