/- The model's goFour, goMates, AreMates, JoinMates. -/
import Derived.Test.YtodgalflngfnpaaSGoJ
import Derived.Test.YtodgalflngfnpaaGoF
namespace Go.Proofs.Ytodgalflngfnpaa
set_option maxRecDepth 100000
open Go.RowKit

set_option maxHeartbeats 1000000 in
theorem goFour_any (va vb vc vd : Value) (a b c d : List Int) (w : World) (hva : IS w va a) (hvb : IS w vb b) (hvc : IS w vc c) (hvd : IS w vd d) (hla : a.length ≤ 1048576) (hlb : b.length ≤ 1048576) (hlc : c.length ≤ 1048576) (hld : d.length ≤ 1048576) : Calls Try.prog 72 #[va, vb, vc, vd] w (Ret w (.bool (foOk a b c d))) := by
  have HP := goPair_any va vb a b w hva hvb hla hlb
  have HQ := fun w' (h : Below w.heap.size w w') => goPair_any vc vd c d w' (hvc.below h) (hvd.below h) hlc hld
  obtain ⟨pa, ca, rfl⟩ := hva.slice
  obtain ⟨pc, cc, rfl⟩ := hvc.slice
  by_cases hp : goOk a b = true
  · by_cases hq : goOk c d = true
    · have e : foOk a b c d = decide (a.length = c.length) := by unfold foOk; rw [hp, hq]; rfl
      rw [e]
      rw [hp] at HP
      simp only [hq] at HQ
      have HP' := Lib.hid HP
      have HQ' := Lib.hid HQ
      obtain ⟨N, hN⟩ : ∃ N, N = a.length := ⟨_, rfl⟩
      obtain ⟨M, hM⟩ : ∃ N, N = c.length := ⟨_, rfl⟩
      rw [← hN] at HP' ⊢
      rw [← hM] at HQ' ⊢
      clear HP HQ e hN hM hp hq hva hvb hvc hvd
      by_cases hnm : N = M
      · subst hnm
        rw [decide_eq_true rfl]
        have B0 := Lib.hid (Below.refl w.heap.size w)
        go_enter Try.func72, Try.ntmps72
        go_wp2_with fail
        refine (HP'.out).mono ?_
        rintro e w1 ⟨rfl, hb1⟩
        have B1 := Lib.hid (joins B0.out hb1)
        clear hb1
        go_wp2_with fail
        refine (HQ'.out _ B1.out).mono ?_
        rintro e w2 ⟨rfl, hb2⟩
        have B2 := Lib.hid (joins B1.out hb2)
        clear hb2
        go_wp2_with fail
        go_returns
        exact ⟨rfl, B2.out⟩
      · have h1 : ((N : Int) == (M : Int)) = false := by simp; omega
        have h2 : ¬ (N : Int) = (M : Int) := by omega
        rw [decide_eq_false hnm]
        have B0 := Lib.hid (Below.refl w.heap.size w)
        go_enter Try.func72, Try.ntmps72
        go_wp2_with fail
        refine (HP'.out).mono ?_
        rintro e w1 ⟨rfl, hb1⟩
        have B1 := Lib.hid (joins B0.out hb1)
        clear hb1
        go_wp2_with fail
        refine (HQ'.out _ B1.out).mono ?_
        rintro e w2 ⟨rfl, hb2⟩
        have B2 := Lib.hid (joins B1.out hb2)
        clear hb2
        go_wp2_with fail
        go_returns
        exact ⟨rfl, B2.out⟩
    · have hq2 : goOk c d = false := by simpa using hq
      have e : foOk a b c d = false := by unfold foOk; rw [hq2, Bool.and_false, Bool.false_and]
      rw [e]
      rw [hp] at HP
      simp only [hq2] at HQ
      have HP' := Lib.hid HP
      have HQ' := Lib.hid HQ
      clear HP HQ e hp hq hq2 hva hvb hvc hvd
      have B0 := Lib.hid (Below.refl w.heap.size w)
      go_enter Try.func72, Try.ntmps72
      go_wp2_with fail
      refine (HP'.out).mono ?_
      rintro e w1 ⟨rfl, hb1⟩
      have B1 := Lib.hid (joins B0.out hb1)
      clear hb1
      go_wp2_with fail
      refine (HQ'.out _ B1.out).mono ?_
      rintro e w2 ⟨rfl, hb2⟩
      have B2 := Lib.hid (joins B1.out hb2)
      clear hb2
      go_wp2_with fail
      go_returns
      exact ⟨rfl, B2.out⟩
  · have hp2 : goOk a b = false := by simpa using hp
    have e : foOk a b c d = false := by unfold foOk; rw [hp2, Bool.false_and, Bool.false_and]
    rw [e]
    rw [hp2] at HP
    have HP' := Lib.hid HP
    clear HP HQ e hp hp2 hva hvb hvc hvd
    have B0 := Lib.hid (Below.refl w.heap.size w)
    go_enter Try.func72, Try.ntmps72
    go_wp2_with fail
    refine (HP'.out).mono ?_
    rintro e w1 ⟨rfl, hb1⟩
    have B1 := Lib.hid (joins B0.out hb1)
    clear hb1
    go_wp2_with fail
    go_returns
    exact ⟨rfl, B1.out⟩

set_option maxRecDepth 100000 in
set_option maxHeartbeats 2000000 in
theorem sjoinMates (va vb vc vd : Value) (a b c d : List Int) (w : World) (hva : IS w va a) (hvb : IS w vb b) (hvc : IS w vc c) (hvd : IS w vd d) (hla : a.length ≤ 1048576) (hlb : b.length ≤ 1048576) (hlc : c.length ≤ 1048576) (hld : d.length ≤ 1048576) : Calls Try.prog 39 #[va, vb, vc, vd] w (Makes2B w (jmp a b c d) (jmq a b c d) (jmOk a b c d)) := by
  have HP := goFour_any va vb vc vd a b c d w hva hvb hvc hvd hla hlb hlc hld
  by_cases hp : foOk a b c d = true
  · obtain ⟨h1, h2, h3⟩ := foOk_parts hp
    obtain ⟨ha, hb, hab, -⟩ := goOk_parts h1
    obtain ⟨hc, hd, hcd, -⟩ := goOk_parts h2
    have HJ1 := fun w' (h : Below w.heap.size w w') => goJoin_any va vc a c w' (hva.below h) (hvc.below h) hla hlc
    have HJ2 := fun w' (h : Below w.heap.size w w') => goJoin_any vb vd b d w' (hvb.below h) (hvd.below h) hlb hld
    have s1 := cat_seq a c ha hc
    have s2 := cat_seq b d hb hd
    rw [show a.length + c.length = 2 * a.length by omega] at s1
    rw [show b.length + d.length = 2 * a.length by omega] at s2
    have hl1 : (a ++ c).length ≤ 1048576 := by rw [List.length_append]; have := goOk_len h1; omega
    rw [hp] at HP
    have HP' := Lib.hid HP
    clear HP
    by_cases hx : 2 * a.length ≤ 32
    · have hok : jmOk a b c d = true := by unfold jmOk; rw [hp, decide_eq_true hx]; rfl
      rw [hok, show jmp a b c d = a ++ c from iff_yes _ hok, show jmq a b c d = b ++ d from iff_yes _ hok]
      rw [decide_eq_true hx] at s1 s2
      have HG := fun v u w' (hv : IS w' v (a ++ c)) (hu : IS w' u (b ++ d)) => goTwo_yes v u _ _ w' hv hu s1 s2
      obtain ⟨X, hX⟩ : ∃ T, T = a ++ c := ⟨_, rfl⟩
      obtain ⟨Y, hY⟩ : ∃ Y, Y = b ++ d := ⟨_, rfl⟩
      rw [← hX] at HJ1 HG ⊢
      rw [← hY] at HJ2 HG ⊢
      have HJ1' := Lib.hid HJ1
      have HJ2' := Lib.hid HJ2
      have HG' := Lib.hid HG
      clear HJ1 HJ2 HG hX hY s1 s2 hl1 hok hp ha hb hc hd hva hvb hvc hvd hab hcd h1 h2 h3
      have B0 := Lib.hid (Below.refl w.heap.size w)
      go_enter Try.func39, Try.ntmps39
      go_wp2_with fail
      refine (HP'.out).mono ?_
      rintro e w1 ⟨rfl, hb1⟩
      have B1 := Lib.hid (joins B0.out hb1)
      clear hb1
      go_wp2_with fail
      refine (HJ1'.out _ B1.out).mono ?_
      rintro e w2 ⟨v2, rfl, ho2, hb2⟩
      have B2 := Lib.hid (joins B1.out hb2)
      have O2_x := Lib.hid ho2
      have S2 := Lib.hid hb2.size
      clear ho2
      clear hb2
      go_wp2_with fail
      refine (HJ2'.out _ B2.out).mono ?_
      rintro e w3 ⟨v3, rfl, ho3, hb3⟩
      have B3 := Lib.hid (joins B2.out hb3)
      have O3_x := Lib.hid (O2_x.out.below hb3)
      have O3_y := Lib.hid ho3
      have S3 := Lib.hid hb3.size
      clear ho3
      clear hb3
      go_wp2_with fail
      refine (HG'.out _ _ _ O3_x.out.is O3_y.out.is).mono ?_
      rintro e w4 ⟨rfl, hb4⟩
      have B4 := Lib.hid (joins B3.out hb4)
      have O4_x := Lib.hid (O3_x.out.below hb4)
      have O4_y := Lib.hid (O3_y.out.below hb4)
      clear hb4
      go_wp2_with fail
      go_returns
      exact Makes2B.two O4_x.out O4_y.out O2_x.out B1.out.size (Nat.le_refl _) B2.out.size B4.out
    · have hok : jmOk a b c d = false := by unfold jmOk; rw [decide_eq_false hx, Bool.and_false]
      rw [hok, show jmp a b c d = [] from iff_no _ hok, show jmq a b c d = [] from iff_no _ hok]
      rw [decide_eq_false hx] at s1
      have HG := fun v u w' (hv : IS w' v (a ++ c)) => goTwo_no v u _ w' hv hl1 s1
      obtain ⟨X, hX⟩ : ∃ T, T = a ++ c := ⟨_, rfl⟩
      obtain ⟨Y, hY⟩ : ∃ Y, Y = b ++ d := ⟨_, rfl⟩
      rw [← hX] at HJ1 HG
      rw [← hY] at HJ2
      have HJ1' := Lib.hid HJ1
      have HJ2' := Lib.hid HJ2
      have HG' := Lib.hid HG
      clear HJ1 HJ2 HG hX hY s1 s2 hl1 hok hp ha hb hc hd hva hvb hvc hvd hab hcd h1 h2 h3
      have B0 := Lib.hid (Below.refl w.heap.size w)
      go_enter Try.func39, Try.ntmps39
      go_wp2_with fail
      refine (HP'.out).mono ?_
      rintro e w1 ⟨rfl, hb1⟩
      have B1 := Lib.hid (joins B0.out hb1)
      clear hb1
      go_wp2_with fail
      refine (HJ1'.out _ B1.out).mono ?_
      rintro e w2 ⟨v2, rfl, ho2, hb2⟩
      have B2 := Lib.hid (joins B1.out hb2)
      have O2_x := Lib.hid ho2
      have S2 := Lib.hid hb2.size
      clear ho2
      clear hb2
      go_wp2_with fail
      refine (HJ2'.out _ B2.out).mono ?_
      rintro e w3 ⟨v3, rfl, ho3, hb3⟩
      have B3 := Lib.hid (joins B2.out hb3)
      have O3_x := Lib.hid (O2_x.out.below hb3)
      have O3_y := Lib.hid ho3
      have S3 := Lib.hid hb3.size
      clear ho3
      clear hb3
      go_wp2_with fail
      refine (HG'.out _ _ _ O3_x.out.is).mono ?_
      rintro e w4 ⟨rfl, hb4⟩
      have B4 := Lib.hid (joins B3.out hb4)
      have O4_x := Lib.hid (O3_x.out.below hb4)
      have O4_y := Lib.hid (O3_y.out.below hb4)
      clear hb4
      go_wp2_with fail
      go_returns
      exact Makes2B.none B4.out
  · have hp2 : foOk a b c d = false := by simpa using hp
    have hok : jmOk a b c d = false := by unfold jmOk; rw [hp2, Bool.false_and]
    rw [hok, show jmp a b c d = [] from iff_no _ hok, show jmq a b c d = [] from iff_no _ hok]
    rw [hp2] at HP
    have HP' := Lib.hid HP
    clear HP hok hp hp2 hva hvb hvc hvd
    have B0 := Lib.hid (Below.refl w.heap.size w)
    go_enter Try.func39, Try.ntmps39
    go_wp2_with fail
    refine (HP'.out).mono ?_
    rintro e w1 ⟨rfl, hb1⟩
    have B1 := Lib.hid (joins B0.out hb1)
    clear hb1
    go_wp2_with fail
    go_returns
    exact Makes2B.none B1.out

set_option maxRecDepth 100000 in
set_option maxHeartbeats 2000000 in
theorem goMates_any (va vb vc vd : Value) (a b c d : List Int) (w : World) (hva : IS w va a) (hvb : IS w vb b) (hvc : IS w vc c) (hvd : IS w vd d) (hf : foOk a b c d = true) : Calls Try.prog 73 #[va, vb, vc, vd] w (Ret w (.bool (maB a b c d))) := by
  obtain ⟨h1, h2, h3⟩ := foOk_parts hf
  obtain ⟨ha, hb, hab, hn⟩ := goOk_parts h1
  obtain ⟨hc, hd, hcd, -⟩ := goOk_parts h2
  have h32 := isSeq_len ha
  have HI1 := goIs_any va vb a b w hva hvb ha hb
  have HI2 := fun w' (h : Below w.heap.size w w') => goIs_any vc vd c d w' (hvc.below h) (hvd.below h) hc hd
  obtain ⟨pa, ca, rfl⟩ := hva.slice
  obtain ⟨pb, cb, rfl⟩ := hvb.slice
  obtain ⟨pc, cc, rfl⟩ := hvc.slice
  obtain ⟨pd, cd, rfl⟩ := hvd.slice
  by_cases g1 : goB a b = true
  · by_cases g2 : goB c d = true
    · have e : maB a b c d = maL a b c d := by unfold maB; rw [g1, g2]; rfl
      rw [e]
      rw [g1] at HI1
      simp only [g2] at HI2
      have HA : ∀ k : Nat, k < 2 * a.length - 1 → ∀ w', Below w.heap.size w w' → Calls Try.prog 55 #[.slice pa a.length ca, .slice pc c.length cc, .int .i64 (1 - (a.length : Int) + (k : Int))] w' (Ret w' (.agg #[.int .i64 (apS vx a c (1 - (a.length : Int) + (k : Int))), .int .i64 (apS vy a c (1 - (a.length : Int) + (k : Int)))])) := fun k hk w' h => crAt_any _ _ a c _ w' (hva.below h) (hvc.below h) ha hc h3 (by omega) (by omega)
      have HBB : ∀ k : Nat, k < 2 * a.length - 1 → ∀ w', Below w.heap.size w w' → Calls Try.prog 55 #[.slice pb b.length cb, .slice pd d.length cd, .int .i64 (1 - (a.length : Int) + (k : Int))] w' (Ret w' (.agg #[.int .i64 (apS vx b d (1 - (a.length : Int) + (k : Int))), .int .i64 (apS vy b d (1 - (a.length : Int) + (k : Int)))])) := fun k hk w' h => crAt_any _ _ b d _ w' (hvb.below h) (hvd.below h) hb hd (by omega) (by omega) (by omega)
      have HP : ∀ k : Nat, ∀ w', Calls Try.prog 54 #[.agg #[.int .i64 (apS vx a c (1 - (a.length : Int) + (k : Int))), .int .i64 (apS vy a c (1 - (a.length : Int) + (k : Int)))], .agg #[.int .i64 (apS vx b d (1 - (a.length : Int) + (k : Int))), .int .i64 (apS vy b d (1 - (a.length : Int) + (k : Int)))]] w' (Ret w' (.agg #[.int .i64 (maT vx a b c d (1 - (a.length : Int) + (k : Int))), .int .i64 (maT vy a b c d (1 - (a.length : Int) + (k : Int)))])) := fun k w' => by
        have s1 := apS_small vx vx_one a c (1 - (a.length : Int) + (k : Int)) (by omega)
        have s2 := apS_small vy vy_one a c (1 - (a.length : Int) + (k : Int)) (by omega)
        have s3 := apS_small vx vx_one b d (1 - (a.length : Int) + (k : Int)) (by omega)
        have s4 := apS_small vy vy_one b d (1 - (a.length : Int) + (k : Int)) (by omega)
        exact phPlus_any _ _ _ _ (by omega) (by omega) (by omega) (by omega) w'
      have hfal : ∀ k : Nat, k < 2 * a.length - 1 → maZ a b c d (1 - (a.length : Int) + (k : Int)) = false → maL a b c d = false := fun k hk h => maL_false a b c d k hk h
      have hend : maN a b c d (1 - (a.length : Int)) (2 * a.length - 1) = true → maL a b c d = true := fun h => h
      have hstep : ∀ k, maN a b c d (1 - (a.length : Int)) (k + 1) = (maN a b c d (1 - (a.length : Int)) k && maZ a b c d (1 - (a.length : Int) + (k : Int))) := fun k => rfl
      have hz : ∀ k : Nat, maZ a b c d (1 - (a.length : Int) + (k : Int)) = (decide (maT vx a b c d (1 - (a.length : Int) + (k : Int)) = 0) && decide (maT vy a b c d (1 - (a.length : Int) + (k : Int)) = 0)) := fun k => rfl
      obtain ⟨R, hR⟩ : ∃ R, R = maL a b c d := ⟨_, rfl⟩
      rw [← hR] at hfal hend ⊢
      obtain ⟨G, hG⟩ : ∃ G, G = maN a b c d (1 - (a.length : Int)) := ⟨_, rfl⟩
      have hG0 : G 0 = true := by rw [hG]; rfl
      rw [← hG] at hend hstep
      obtain ⟨N, hN⟩ : ∃ N, N = a.length := ⟨_, rfl⟩
      obtain ⟨M, hM⟩ : ∃ N, N = b.length := ⟨_, rfl⟩
      obtain ⟨N2, hN2⟩ : ∃ N, N = c.length := ⟨_, rfl⟩
      obtain ⟨M2, hM2⟩ : ∃ N, N = d.length := ⟨_, rfl⟩
      rw [← hN] at HI1 HA HP HBB hfal hend hstep hz h32 hn ⊢
      rw [← hM] at HI1 HBB ⊢
      rw [← hN2] at HI2 HA ⊢
      rw [← hM2] at HI2 HBB ⊢
      obtain ⟨X1, hX1⟩ : ∃ F : Nat → Int, F = fun k : Nat => apS vx a c (1 - (N : Int) + (k : Int)) := ⟨_, rfl⟩
      obtain ⟨Y1, hY1⟩ : ∃ F : Nat → Int, F = fun k : Nat => apS vy a c (1 - (N : Int) + (k : Int)) := ⟨_, rfl⟩
      obtain ⟨X2, hX2⟩ : ∃ F : Nat → Int, F = fun k : Nat => apS vx b d (1 - (N : Int) + (k : Int)) := ⟨_, rfl⟩
      obtain ⟨Y2, hY2⟩ : ∃ F : Nat → Int, F = fun k : Nat => apS vy b d (1 - (N : Int) + (k : Int)) := ⟨_, rfl⟩
      obtain ⟨X3, hX3⟩ : ∃ F : Nat → Int, F = fun k : Nat => maT vx a b c d (1 - (N : Int) + (k : Int)) := ⟨_, rfl⟩
      obtain ⟨Y3, hY3⟩ : ∃ F : Nat → Int, F = fun k : Nat => maT vy a b c d (1 - (N : Int) + (k : Int)) := ⟨_, rfl⟩
      obtain ⟨Z, hZ⟩ : ∃ F : Nat → Bool, F = fun k : Nat => maZ a b c d (1 - (N : Int) + (k : Int)) := ⟨_, rfl⟩
      have HA2 : ∀ k : Nat, k < 2 * N - 1 → ∀ w', Below w.heap.size w w' → Calls Try.prog 55 #[.slice pa N ca, .slice pc N2 cc, .int .i64 (1 - (N : Int) + (k : Int))] w' (Ret w' (.agg #[.int .i64 (X1 k), .int .i64 (Y1 k)])) := fun k hk w' h => by rw [hX1, hY1]; exact HA k hk w' h
      have HB2 : ∀ k : Nat, k < 2 * N - 1 → ∀ w', Below w.heap.size w w' → Calls Try.prog 55 #[.slice pb M cb, .slice pd M2 cd, .int .i64 (1 - (N : Int) + (k : Int))] w' (Ret w' (.agg #[.int .i64 (X2 k), .int .i64 (Y2 k)])) := fun k hk w' h => by rw [hX2, hY2]; exact HBB k hk w' h
      have HP2 : ∀ k : Nat, ∀ w', Calls Try.prog 54 #[.agg #[.int .i64 (X1 k), .int .i64 (Y1 k)], .agg #[.int .i64 (X2 k), .int .i64 (Y2 k)]] w' (Ret w' (.agg #[.int .i64 (X3 k), .int .i64 (Y3 k)])) := fun k w' => by rw [hX1, hY1, hX2, hY2, hX3, hY3]; exact HP k w'
      have hz2 : ∀ k : Nat, Z k = (decide (X3 k = 0) && decide (Y3 k = 0)) := fun k => by rw [hZ, hX3, hY3]; exact hz k
      have hfal2 : ∀ k : Nat, k < 2 * N - 1 → Z k = false → R = false := fun k hk h => hfal k hk (by rw [hZ] at h; exact h)
      have hstep2 : ∀ k, G (k + 1) = (G k && Z k) := fun k => by rw [hZ]; exact hstep k
      have HI1' := Lib.hid HI1
      have HI2' := Lib.hid HI2
      have HA' := Lib.hid HA2
      have HB' := Lib.hid HB2
      have HP' := Lib.hid HP2
      have HF := Lib.hid hfal2
      have HE := Lib.hid hend
      have HST := Lib.hid hstep2
      have HG0 := Lib.hid hG0
      have HZ := Lib.hid hz2
      clear HI1 HI2 HA HA2 HBB HB2 HP HP2 hfal hfal2 hend hstep hstep2 hG0 hz hz2 hR hG hN hM hN2 hM2 hX1 hY1 hX2 hY2 hX3 hY3 hZ ha hb hc hd hva hvb hvc hvd hab hcd h1 h2 h3 g1 g2 e hf
      go_enter Try.func73, Try.ntmps73
      go_wp2_with fail
      refine (HI1'.out).mono ?_
      rintro e w1 ⟨rfl, hb1⟩
      have BB1 := Lib.hid hb1
      clear hb1
      go_wp2_with fail
      refine (HI2'.out _ BB1.out).mono ?_
      rintro e w2 ⟨rfl, hb2⟩
      have BB2 := Lib.hid (joins BB1.out hb2)
      clear hb2
      go_wp2_with fail
      go_loopw [9] (fun i wr => ∃ k : Nat, k ≤ 2 * N - 1 ∧ i = .int .i64 (1 - (N : Int) + (k : Int)) ∧ G k = true ∧ Below w.heap.size w wr) (fun i _ => ((N : Int) - intOf i).toNat)
      case atStart => exact ⟨0, Nat.zero_le _, by go_num, HG0.out, BB2.out⟩
      case round =>
        obtain ⟨k, hk, rfl, hg, hbel⟩ := hrel
        have HBEL := Lib.hid hbel
        have HG := Lib.hid hg
        clear hbel hg
        by_cases hlt : k < 2 * N - 1
        · have h0 : (0 : Int) ≤ (k : Int) := by omega
          have h1 : 1 - (N : Int) + (k : Int) < (N : Int) := by omega
          have HAk := Lib.hid (HA'.out k hlt)
          have HBk := Lib.hid (HB'.out k hlt)
          have HPk := Lib.hid (HP'.out k)
          have hzk := HZ.out k
          have hf := HF.out k hlt
          have hst := HST.out k
          obtain ⟨x1, hx1⟩ : ∃ x, x = X1 k := ⟨_, rfl⟩
          obtain ⟨y1, hy1⟩ : ∃ x, x = Y1 k := ⟨_, rfl⟩
          obtain ⟨x2, hx2⟩ : ∃ x, x = X2 k := ⟨_, rfl⟩
          obtain ⟨y2, hy2⟩ : ∃ x, x = Y2 k := ⟨_, rfl⟩
          obtain ⟨x3, hx3⟩ : ∃ x, x = X3 k := ⟨_, rfl⟩
          obtain ⟨y3, hy3⟩ : ∃ x, x = Y3 k := ⟨_, rfl⟩
          rw [← hx1, ← hy1] at HAk HPk
          rw [← hx2, ← hy2] at HBk HPk
          rw [← hx3, ← hy3] at HPk hzk
          clear hx1 hy1 hx2 hy2 hx3 hy3
          by_cases hzz : x3 = 0 ∧ y3 = 0
          · obtain ⟨rfl, rfl⟩ := hzz
            have hg2 : G (k + 1) = true := by rw [hst, HG.out, hzk]; rfl
            have HG2 := Lib.hid hg2
            clear hzk hf hst hg2
            go_wp2_with fail
            refine (HAk.out _ HBEL.out).mono ?_
            rintro e w2 ⟨rfl, hb2⟩
            have HBEL2 := Lib.hid (joins HBEL.out hb2)
            clear hb2
            go_wp2_with fail
            refine (HBk.out _ HBEL2.out).mono ?_
            rintro e w3 ⟨rfl, hb3⟩
            have HBEL3 := Lib.hid (joins HBEL2.out hb3)
            clear hb3
            go_wp2_with fail
            refine (HPk.out _).mono ?_
            rintro e w4 ⟨rfl, hb4⟩
            have HBEL4 := Lib.hid (joins HBEL3.out hb4)
            clear hb4
            go_wp2_with fail
            go_roundw
            case rel => exact ⟨k + 1, by omega, by go_num, HG2.out, HBEL4.out⟩
            case measure => simp [intOf]; omega
          · have hr : R = false := hf (by
              rw [hzk]
              by_cases h1 : x3 = 0
              · have h2 : y3 ≠ 0 := fun h => hzz ⟨h1, h⟩
                rw [decide_eq_false h2, Bool.and_false]
              · rw [decide_eq_false h1, Bool.false_and])
            have HR := Lib.hid hr
            clear hzk hf hst hr
            go_wp2_with fail
            refine (HAk.out _ HBEL.out).mono ?_
            rintro e w2 ⟨rfl, hb2⟩
            have HBEL2 := Lib.hid (joins HBEL.out hb2)
            clear hb2
            go_wp2_with fail
            refine (HBk.out _ HBEL2.out).mono ?_
            rintro e w3 ⟨rfl, hb3⟩
            have HBEL3 := Lib.hid (joins HBEL2.out hb3)
            clear hb3
            go_wp2_with fail
            refine (HPk.out _).mono ?_
            rintro e w4 ⟨rfl, hb4⟩
            have HBEL4 := Lib.hid (joins HBEL3.out hb4)
            clear hb4
            go_wp2_with fail
            all_goals
              go_returns
              exact ⟨ret_bool HR.out.symm, HBEL4.out⟩
        · have he : k = 2 * N - 1 := by omega
          have h1 : (N : Int) ≤ 1 - (N : Int) + (k : Int) := by omega
          subst he
          have hr := HE.out HG.out
          have HR := Lib.hid hr
          clear hr
          go_wp2_with fail
          go_returns
          exact ⟨ret_bool HR.out.symm, HBEL.out⟩
    · have g3 : goB c d = false := by simpa using g2
      have e : maB a b c d = false := by unfold maB; rw [g3, Bool.and_false, Bool.false_and]
      rw [e]
      rw [g1] at HI1
      simp only [g3] at HI2
      have HI1' := Lib.hid HI1
      have HI2' := Lib.hid HI2
      clear HI1 HI2 ha hb hc hd hva hvb hvc hvd hab hcd h1 h2 h3 g1 g2 g3 e hf
      have B0 := Lib.hid (Below.refl w.heap.size w)
      go_enter Try.func73, Try.ntmps73
      go_wp2_with fail
      refine (HI1'.out).mono ?_
      rintro e w1 ⟨rfl, hb1⟩
      have B1 := Lib.hid (joins B0.out hb1)
      clear hb1
      go_wp2_with fail
      refine (HI2'.out _ B1.out).mono ?_
      rintro e w2 ⟨rfl, hb2⟩
      have B2 := Lib.hid (joins B1.out hb2)
      clear hb2
      go_wp2_with fail
      go_returns
      exact ⟨rfl, B2.out⟩
  · have g3 : goB a b = false := by simpa using g1
    have e : maB a b c d = false := by unfold maB; rw [g3, Bool.false_and, Bool.false_and]
    rw [e]
    rw [g3] at HI1
    have HI1' := Lib.hid HI1
    clear HI1 HI2 ha hb hc hd hva hvb hvc hvd hab hcd h1 h2 h3 g1 g3 e hf
    have B0 := Lib.hid (Below.refl w.heap.size w)
    go_enter Try.func73, Try.ntmps73
    go_wp2_with fail
    refine (HI1'.out).mono ?_
    rintro e w1 ⟨rfl, hb1⟩
    have B1 := Lib.hid (joins B0.out hb1)
    clear hb1
    go_wp2_with fail
    go_returns
    exact ⟨rfl, B1.out⟩

set_option maxHeartbeats 1000000 in
theorem sareMates (va vb vc vd : Value) (a b c d : List Int) (w : World) (hva : IS w va a) (hvb : IS w vb b) (hvc : IS w vc c) (hvd : IS w vd d) (hla : a.length ≤ 1048576) (hlb : b.length ≤ 1048576) (hlc : c.length ≤ 1048576) (hld : d.length ≤ 1048576) : Calls Try.prog 37 #[va, vb, vc, vd] w (Ret w (.tuple #[.bool (foOk a b c d && maB a b c d), .bool (foOk a b c d)])) := by
  have HP := goFour_any va vb vc vd a b c d w hva hvb hvc hvd hla hlb hlc hld
  by_cases hp : foOk a b c d = true
  · have HI := fun w' (h : Below w.heap.size w w') => goMates_any va vb vc vd a b c d w' (hva.below h) (hvb.below h) (hvc.below h) (hvd.below h) hp
    rw [hp] at HP ⊢
    rw [Bool.true_and]
    have HP' := Lib.hid HP
    have HI' := Lib.hid HI
    clear HP HI hp hva hvb hvc hvd
    have B0 := Lib.hid (Below.refl w.heap.size w)
    go_enter Try.func37, Try.ntmps37
    go_wp2_with fail
    refine (HP'.out).mono ?_
    rintro e w1 ⟨rfl, hb1⟩
    have B1 := Lib.hid (joins B0.out hb1)
    clear hb1
    go_wp2_with fail
    refine (HI'.out _ B1.out).mono ?_
    rintro e w2 ⟨rfl, hb2⟩
    have B2 := Lib.hid (joins B1.out hb2)
    clear hb2
    go_wp2_with fail
    go_returns
    exact ⟨rfl, B2.out⟩
  · have hp2 : foOk a b c d = false := by simpa using hp
    rw [hp2] at HP ⊢
    rw [Bool.false_and]
    have HP' := Lib.hid HP
    clear HP hp hp2 hva hvb hvc hvd
    have B0 := Lib.hid (Below.refl w.heap.size w)
    go_enter Try.func37, Try.ntmps37
    go_wp2_with fail
    refine (HP'.out).mono ?_
    rintro e w1 ⟨rfl, hb1⟩
    have B1 := Lib.hid (joins B0.out hb1)
    clear hb1
    go_wp2_with fail
    go_returns
    exact ⟨rfl, B1.out⟩
end Go.Proofs.Ytodgalflngfnpaa
