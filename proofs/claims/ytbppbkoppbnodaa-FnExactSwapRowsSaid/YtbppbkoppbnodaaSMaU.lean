/- The model's TurnedOver, TurnRow, TurnColumn, SwapRows. -/
import Derived.Test.YtbppbkoppbnodaaSMaT
namespace Go.Proofs.Ytbppbkoppbnodaa
set_option maxRecDepth 100000
open Go.RowKit

theorem sturnedOver (v : Value) (m : List (List Int)) (w : World) (hv : IR w v m) : Calls Try.prog 20 #[v] w (MakesRB w (ovA m) (maOk m)) := by
  obtain ⟨a, cap, rfl⟩ := hv.slice
  have HG := Lib.hid (haGood_any _ m w hv)
  have HV := Lib.hid hv
  have HB0 := Lib.hid (Below.refl w.heap.size w)
  unfold ovA
  cases hm : maOk m with
  | false =>
    rw [hm] at HG
    rw [if_neg (by simp)]
    clear hv hm
    go_enter Try.func20, Try.ntmps20
    go_wp2_with fail
    refine (HG.out).mono ?_
    rintro e w1 ⟨rfl, hb1⟩
    have HB1 := Lib.hid (joins HB0.out hb1)
    clear hb1
    go_wp2_with fail
    go_returns
    exact ⟨_, rfl, OwnR.nil _ _, HB1.out⟩
  | true =>
    rw [hm] at HG
    rw [if_pos rfl]
    have HC := Lib.hid (fun w' (h : IR w' (.slice a m.length cap) m) => haOver_any _ m w' h (maOk_sq hm) (maOk_le hm))
    clear hv hm
    go_enter Try.func20, Try.ntmps20
    go_wp2_with fail
    refine (HG.out).mono ?_
    rintro e w1 ⟨rfl, hb1⟩
    have HB1 := Lib.hid (joins HB0.out hb1)
    clear hb1
    go_wp2_with fail
    refine (HC.out _ (HV.out.below HB1.out)).mono ?_
    rintro e w2 ⟨v2, rfl, ho2, hb2⟩
    have HB2 := Lib.hid (joins HB1.out hb2)
    have HO2 := Lib.hid (ho2.mono HB1.out.size)
    have HI2 := Lib.hid ho2.is
    clear ho2 hb2
    go_wp2_with fail
    go_returns
    exact ⟨_, rfl, HO2.out, HB2.out⟩
set_option maxHeartbeats 1000000 in
theorem sturnRow (v : Value) (m : List (List Int)) (i k : Int) (w : World) (hv : IR w v m) : Calls Try.prog 24 #[v, .int .i64 i, .int .i64 k] w (MakesRB w (trA m i k) (trOk m i k)) := by
  obtain ⟨a, cap, rfl⟩ := hv.slice
  have HR := Lib.hid (haRow_any _ m i w hv)
  have HV := Lib.hid hv
  have HB0 := Lib.hid (Below.refl w.heap.size w)
  have HK := Lib.hid (l1In_any k 0 3)
  unfold trA trOk
  cases hm : maRow m i with
  | false =>
    rw [hm] at HR
    rw [Bool.false_and, if_neg (by simp)]
    clear hv hm HK
    go_enter Try.func24, Try.ntmps24
    go_wp2_with fail
    refine (HR.out).mono ?_
    rintro e w1 ⟨rfl, hb1⟩
    have HB1 := Lib.hid (joins HB0.out hb1)
    clear hb1
    go_wp2_with fail
    go_returns
    exact ⟨_, rfl, OwnR.nil _ _, HB1.out⟩
  | true =>
    rw [hm] at HR
    rw [Bool.true_and]
    cases hk : inB k 0 3 with
    | false =>
      rw [hk] at HK
      rw [if_neg (by simp)]
      clear hv hm hk
      go_enter Try.func24, Try.ntmps24
      go_wp2_with fail
      refine (HR.out).mono ?_
      rintro e w1 ⟨rfl, hb1⟩
      have HB1 := Lib.hid (joins HB0.out hb1)
      clear hb1
      go_wp2_with fail
      refine (HK.out _).mono ?_
      rintro e u1 ⟨rfl, rfl⟩
      go_wp2_with fail
      go_returns
      exact ⟨_, rfl, OwnR.nil _ _, HB1.out⟩
    | true =>
      rw [hk] at HK
      rw [if_pos rfl]
      obtain ⟨hok, hi0, hi1, hi2⟩ := maRow_parts hm
      have hk2 : 0 ≤ k ∧ k ≤ 3 := by simpa [inB] using hk
      obtain ⟨i, rfl⟩ := Int.eq_ofNat_of_zero_le hi0
      simp only [Int.toNat_natCast] at hi1 ⊢
      have HC := Lib.hid (fun w' (h : IR w' (.slice a m.length cap) m) => haTurn_any _ m i k w' h hok hi1 (by omega) (by omega))
      clear hv hm hk hok hk2
      go_enter Try.func24, Try.ntmps24
      go_wp2_with fail
      refine (HR.out).mono ?_
      rintro e w1 ⟨rfl, hb1⟩
      have HB1 := Lib.hid (joins HB0.out hb1)
      clear hb1
      go_wp2_with fail
      refine (HK.out _).mono ?_
      rintro e u1 ⟨rfl, rfl⟩
      go_wp2_with fail
      refine (HC.out _ (HV.out.below HB1.out)).mono ?_
      rintro e w2 ⟨v2, rfl, ho2, hb2⟩
      have HB2 := Lib.hid (joins HB1.out hb2)
      have HO2 := Lib.hid (ho2.mono HB1.out.size)
      have HI2 := Lib.hid ho2.is
      clear ho2 hb2
      go_wp2_with fail
      go_returns
      exact ⟨_, rfl, HO2.out, HB2.out⟩
set_option maxHeartbeats 1000000 in
theorem sturnColumn (v : Value) (m : List (List Int)) (i k : Int) (w : World) (hv : IR w v m) : Calls Try.prog 28 #[v, .int .i64 i, .int .i64 k] w (MakesRB w (tcA m i k) (trOk m i k)) := by
  obtain ⟨a, cap, rfl⟩ := hv.slice
  have HR := Lib.hid (haRow_any _ m i w hv)
  have HV := Lib.hid hv
  have HB0 := Lib.hid (Below.refl w.heap.size w)
  have HK := Lib.hid (l1In_any k 0 3)
  unfold tcA trOk
  cases hm : maRow m i with
  | false =>
    rw [hm] at HR
    rw [Bool.false_and, if_neg (by simp)]
    clear hv hm HK
    go_enter Try.func28, Try.ntmps28
    go_wp2_with fail
    refine (HR.out).mono ?_
    rintro e w1 ⟨rfl, hb1⟩
    have HB1 := Lib.hid (joins HB0.out hb1)
    clear hb1
    go_wp2_with fail
    go_returns
    exact ⟨_, rfl, OwnR.nil _ _, HB1.out⟩
  | true =>
    rw [hm] at HR
    rw [Bool.true_and]
    cases hk : inB k 0 3 with
    | false =>
      rw [hk] at HK
      rw [if_neg (by simp)]
      clear hv hm hk
      go_enter Try.func28, Try.ntmps28
      go_wp2_with fail
      refine (HR.out).mono ?_
      rintro e w1 ⟨rfl, hb1⟩
      have HB1 := Lib.hid (joins HB0.out hb1)
      clear hb1
      go_wp2_with fail
      refine (HK.out _).mono ?_
      rintro e u1 ⟨rfl, rfl⟩
      go_wp2_with fail
      go_returns
      exact ⟨_, rfl, OwnR.nil _ _, HB1.out⟩
    | true =>
      rw [hk] at HK
      rw [if_pos rfl]
      obtain ⟨hok, hi0, hi1, hi2⟩ := maRow_parts hm
      have hk2 : 0 ≤ k ∧ k ≤ 3 := by simpa [inB] using hk
      obtain ⟨i, rfl⟩ := Int.eq_ofNat_of_zero_le hi0
      simp only [Int.toNat_natCast] at hi1 ⊢
      have HC1 := Lib.hid (fun w' (h : IR w' (.slice a m.length cap) m) => haOver_any _ m w' h (maOk_sq hok) (maOk_le hok))
      have ho2 := maOk_ov hok
      have hi3 : i < (ovL m).length := by rw [ovL_length]; exact hi1
      have ho3 := maOk_tr ho2 i k hi3
      have HC2 := Lib.hid (fun w' u (h : IR w' u (ovL m)) => haTurn_any u (ovL m) i k w' h ho2 hi3 (by omega) (by omega))
      have HC3 := Lib.hid (fun w' u (h : IR w' u (trM (ovL m) i k)) => haOver_any u (trM (ovL m) i k) w' h (maOk_sq ho3) (maOk_le ho3))
      clear hv hm hk hok hk2 ho2 ho3 hi3
      go_enter Try.func28, Try.ntmps28
      go_wp2_with fail
      refine (HR.out).mono ?_
      rintro e w1 ⟨rfl, hb1⟩
      have HB1 := Lib.hid (joins HB0.out hb1)
      clear hb1
      go_wp2_with fail
      refine (HK.out _).mono ?_
      rintro e u1 ⟨rfl, rfl⟩
      go_wp2_with fail
      refine (HC1.out _ (HV.out.below HB1.out)).mono ?_
      rintro e w2 ⟨v2, rfl, ho2, hb2⟩
      have HB2 := Lib.hid (joins HB1.out hb2)
      have HO2 := Lib.hid (ho2.mono HB1.out.size)
      have HI2 := Lib.hid ho2.is
      clear ho2 hb2
      go_wp2_with fail
      refine (HC2.out _ _ HI2.out).mono ?_
      rintro e w3 ⟨v3, rfl, ho3, hb3⟩
      have HB3 := Lib.hid (joins HB2.out hb3)
      have HO3 := Lib.hid (ho3.mono HB2.out.size)
      have HI3 := Lib.hid ho3.is
      clear ho3 hb3
      go_wp2_with fail
      refine (HC3.out _ _ HI3.out).mono ?_
      rintro e w4 ⟨v4, rfl, ho4, hb4⟩
      have HB4 := Lib.hid (joins HB3.out hb4)
      have HO4 := Lib.hid (ho4.mono HB3.out.size)
      have HI4 := Lib.hid ho4.is
      clear ho4 hb4
      go_wp2_with fail
      go_returns
      exact ⟨_, rfl, HO4.out, HB4.out⟩
set_option maxRecDepth 100000 in
set_option maxHeartbeats 2000000 in
theorem sswapRows (v : Value) (m : List (List Int)) (i j : Int) (w : World) (hv : IR w v m) : Calls Try.prog 26 #[v, .int .i64 i, .int .i64 j] w (MakesRB w (swA m i j) (swOk m i j)) := by
  obtain ⟨a, cap, rfl⟩ := hv.slice
  have HR1 := Lib.hid (haRow_any _ m i w hv)
  have HR2 := Lib.hid (fun w' (h : Below w.heap.size w w') => haRow_any _ m j w' (hv.below h))
  have HV := Lib.hid hv
  have HB0 := Lib.hid (Below.refl w.heap.size w)
  unfold swA swOk
  cases h1 : maRow m i with
  | false =>
    rw [h1] at HR1
    rw [Bool.false_and, if_neg (by simp)]
    clear hv h1 HR2
    go_enter Try.func26, Try.ntmps26
    go_wp2_with fail
    refine (HR1.out).mono ?_
    rintro e w1 ⟨rfl, hb1⟩
    have HB1 := Lib.hid (joins HB0.out hb1)
    clear hb1
    go_wp2_with fail
    go_returns
    exact ⟨_, rfl, OwnR.nil _ _, HB1.out⟩
  | true =>
    rw [h1] at HR1
    rw [Bool.true_and]
    cases h2 : maRow m j with
    | false =>
      rw [h2] at HR2
      rw [if_neg (by simp)]
      clear hv h1 h2
      go_enter Try.func26, Try.ntmps26
      go_wp2_with fail
      refine (HR1.out).mono ?_
      rintro e w1 ⟨rfl, hb1⟩
      have HB1 := Lib.hid (joins HB0.out hb1)
      clear hb1
      go_wp2_with fail
      refine (HR2.out _ HB1.out).mono ?_
      rintro e w2 ⟨rfl, hb2⟩
      have HB2 := Lib.hid (joins HB1.out hb2)
      clear hb2
      go_wp2_with fail
      go_returns
      exact ⟨_, rfl, OwnR.nil _ _, HB2.out⟩
    | true =>
      rw [h2] at HR2
      rw [if_pos rfl]
      obtain ⟨hok, hi0, hi1, hi2⟩ := maRow_parts h1
      obtain ⟨-, hj0, hj1, hj2⟩ := maRow_parts h2
      obtain ⟨i, rfl⟩ := Int.eq_ofNat_of_zero_le hi0
      obtain ⟨j, rfl⟩ := Int.eq_ofNat_of_zero_le hj0
      simp only [Int.toNat_natCast] at hi1 hj1 ⊢
      have HC := Lib.hid (fun w' (h : IR w' (.slice a m.length cap) m) => haCopy_any _ m w' h (by have := maOk_le hok; omega) (fun j hj => by rw [maOk_sq hok j hj]; have := maOk_le hok; omega))
      have hli : (m.getD i []).length ≤ 1048576 := by rw [maOk_sq hok i hi1]; have := maOk_le hok; omega
      have hlj : (m.getD j []).length ≤ 1048576 := by rw [maOk_sq hok j hj1]; have := maOk_le hok; omega
      have h8 := maOk_le hok
      have hi0' : (0 : Int) ≤ (i : Int) := by omega
      have hj0' : (0 : Int) ≤ (j : Int) := by omega
      unfold swM
      obtain ⟨li, hlid⟩ : ∃ l, l = m.getD i [] := ⟨_, rfl⟩
      obtain ⟨lj, hljd⟩ : ∃ l, l = m.getD j [] := ⟨_, rfl⟩
      rw [← hlid, ← hljd]
      rw [← hlid] at hli
      rw [← hljd] at hlj
      have HLI := Lib.hid hlid
      have HLJ := Lib.hid hljd
      clear hv h1 h2 hok hlid hljd
      go_enter Try.func26, Try.ntmps26
      go_wp2_with fail
      refine (HR1.out).mono ?_
      rintro e w1 ⟨rfl, hb1⟩
      have HB1 := Lib.hid (joins HB0.out hb1)
      clear hb1
      go_wp2_with fail
      refine (HR2.out _ HB1.out).mono ?_
      rintro e w2 ⟨rfl, hb2⟩
      have HB2 := Lib.hid (joins HB1.out hb2)
      clear hb2
      go_wp2_with fail
      refine (HC.out _ (HV.out.below HB2.out)).mono ?_
      rintro e w3 ⟨v3, rfl, ho3, hb3⟩
      obtain ⟨g, cap3, rfl, hg1, hg2⟩ := ho3.shape (by omega)
      have HB3 := Lib.hid (joins HB2.out hb3)
      have hgw : w.heap.size ≤ g := by have := HB2.out.size; omega
      have HO3 := Lib.hid (ho3.mono HB2.out.size)
      clear ho3 hb3
      obtain ⟨-, b, off, u, rfl, c1, hu⟩ := (HV.out.below HB3.out).at j hj1
      rw [← HLJ.out] at hu
      have HT := Lib.hid (l1Own_any u lj w3 hu hlj)
      clear hu
      go_wp2_with fail
      refine (HT.out).mono ?_
      rintro e w4 ⟨r, rfl, hor, hb4⟩
      obtain ⟨ra, rc, rfl⟩ := hor.is.sl
      have hown4 := HO3.out.below hb4
      obtain ⟨old, c2, c3, hio⟩ := hown4.cellAt rfl i hi1
      obtain ⟨oa, oc, rfl⟩ := hio.sl
      have HO5 := Lib.hid (HO3.out.stored rfl hb4 HB3.out.size hor i hi1)
      have HB5 := Lib.hid ((joins HB3.out hb4).setCell (p := ⟨g, i, none⟩) hgw (.slice ra lj.length rc))
      clear hio hown4 hor hb4
      obtain ⟨w5, hw5⟩ : ∃ x, x = w4.setCell ⟨g, i, none⟩ (.slice ra lj.length rc) := ⟨_, rfl⟩
      rw [← hw5] at HO5 HB5
      obtain ⟨-, b', off', u', hae, c4, hu'⟩ := (HV.out.below HB5.out).at i hi1
      simp only [Option.some.injEq, Addr.mk.injEq, and_true] at hae
      obtain ⟨rfl, rfl⟩ := hae
      rw [← HLI.out] at hu'
      have HT2 := Lib.hid (l1Own_any u' li w5 hu' hli)
      have HW5 := Lib.hid hw5
      clear hu'
      rw [hw5] at c4 HT2
      clear hw5
      go_wp2_with fail
      refine (HT2.out).mono ?_
      rintro e w6 ⟨r, rfl, hor, hb6⟩
      rw [← HW5.out] at hor hb6
      obtain ⟨ra2, rc2, rfl⟩ := hor.is.sl
      have hown6 := HO5.out.below hb6
      have hj5 : j < (m.set i lj).length := by rw [List.length_set]; exact hj1
      obtain ⟨old, c5, c6, hio⟩ := hown6.cellAt (by rw [List.length_set]) j hj5
      obtain ⟨oa2, oc2, rfl⟩ := hio.sl
      have HO7 := Lib.hid (HO5.out.stored (by rw [List.length_set]) hb6 HB5.out.size hor j hj5)
      have HB7 := Lib.hid ((joins HB5.out hb6).setCell (p := ⟨g, j, none⟩) hgw (.slice ra2 li.length rc2))
      clear hio hown6 hor hb6
      go_wp2_with fail
      go_returns
      exact ⟨_, rfl, HO7.out, HB7.out⟩
end Go.Proofs.Ytbppbkoppbnodaa
