/- The model's goPair, goIs, IsGolay and PairSums. -/
import Derived.Test.YtcpeikkkegpdhaaSCr
import Derived.Test.YtcpeikkkegpdhaaGoM
namespace Go.Proofs.Ytcpeikkkegpdhaa
set_option maxRecDepth 100000
open Go.RowKit

/-- The sum of both own correlations at u, as the model makes it. -/
theorem goSum_any (pa pb : Option Addr) (ca cb : Nat) (a b : List Int) (u : Int) (ha : isSeq a = true) (hb : isSeq b = true) (hu1 : -32 ≤ u) (hu2 : u ≤ 32) (w : World) (hva : IS w (.slice pa a.length ca) a) (hvb : IS w (.slice pb b.length cb) b) :
    Calls Try.prog 22 #[.slice pa a.length ca, .slice pa a.length ca, .int .i64 u] w (Ret w (.agg #[.int .i64 (apS vx a a u), .int .i64 (apS vy a a u)])) ∧
    Calls Try.prog 22 #[.slice pb b.length cb, .slice pb b.length cb, .int .i64 u] w (Ret w (.agg #[.int .i64 (apS vx b b u), .int .i64 (apS vy b b u)])) ∧
    ∀ w, Calls Try.prog 21 #[.agg #[.int .i64 (apS vx a a u), .int .i64 (apS vy a a u)], .agg #[.int .i64 (apS vx b b u), .int .i64 (apS vy b b u)]] w (Ret w (.agg #[.int .i64 (goT vx a b u), .int .i64 (goT vy a b u)])) := by
  have h1 := isSeq_len ha
  have h2 := isSeq_len hb
  have s1 := apS_small vx vx_one a a u h1
  have s2 := apS_small vy vy_one a a u h1
  have s3 := apS_small vx vx_one b b u h2
  have s4 := apS_small vy vy_one b b u h2
  exact ⟨crAt_any _ _ a a u w hva hva ha ha rfl hu1 hu2, crAt_any _ _ b b u w hvb hvb hb hb rfl hu1 hu2, fun w => phPlus_any _ _ _ _ (by omega) (by omega) (by omega) (by omega) w⟩

set_option maxRecDepth 100000 in
set_option maxHeartbeats 2000000 in
theorem goIs_any (va vb : Value) (a b : List Int) (w : World) (hva : IS w va a) (hvb : IS w vb b) (ha : isSeq a = true) (hb : isSeq b = true) : Calls Try.prog 18 #[va, vb] w (Ret w (.bool (goB a b))) := by
  have h32 := isSeq_len ha
  obtain ⟨pa, ca, rfl⟩ := hva.slice
  obtain ⟨pb, cb, rfl⟩ := hvb.slice
  have HA : ∀ k : Nat, k + 1 < a.length → ∀ w', Below w.heap.size w w' → Calls Try.prog 22 #[.slice pa a.length ca, .slice pa a.length ca, .int .i64 ((k : Int) + 1)] w' (Ret w' (.agg #[.int .i64 (apS vx a a ((k : Int) + 1)), .int .i64 (apS vy a a ((k : Int) + 1))])) := fun k hk w' h => (goSum_any pa pb ca cb a b _ ha hb (by omega) (by omega) w' (hva.below h) (hvb.below h)).1
  have HBB : ∀ k : Nat, k + 1 < a.length → ∀ w', Below w.heap.size w w' → Calls Try.prog 22 #[.slice pb b.length cb, .slice pb b.length cb, .int .i64 ((k : Int) + 1)] w' (Ret w' (.agg #[.int .i64 (apS vx b b ((k : Int) + 1)), .int .i64 (apS vy b b ((k : Int) + 1))])) := fun k hk w' h => (goSum_any pa pb ca cb a b _ ha hb (by omega) (by omega) w' (hva.below h) (hvb.below h)).2.1
  have HP : ∀ k : Nat, k + 1 < a.length → ∀ w', Calls Try.prog 21 #[.agg #[.int .i64 (apS vx a a ((k : Int) + 1)), .int .i64 (apS vy a a ((k : Int) + 1))], .agg #[.int .i64 (apS vx b b ((k : Int) + 1)), .int .i64 (apS vy b b ((k : Int) + 1))]] w' (Ret w' (.agg #[.int .i64 (goT vx a b ((k : Int) + 1)), .int .i64 (goT vy a b ((k : Int) + 1))])) := fun k hk w' => (goSum_any pa pb ca cb a b _ ha hb (by omega) (by omega) w hva hvb).2.2 w'
  have hfal : ∀ k : Nat, k + 1 < a.length → goZ a b ((k : Int) + 1) = false → goB a b = false := fun k hk h => goB_false a b k hk h
  have hend : goN a b (a.length - 1) = true → goB a b = true := fun h => h
  have hstep : ∀ k, goN a b (k + 1) = (goN a b k && goZ a b ((k : Int) + 1)) := fun k => rfl
  have hz : ∀ k : Nat, goZ a b ((k : Int) + 1) = (decide (goT vx a b ((k : Int) + 1) = 0) && decide (goT vy a b ((k : Int) + 1) = 0)) := fun k => rfl
  obtain ⟨R, hR⟩ : ∃ R, R = goB a b := ⟨_, rfl⟩
  rw [← hR] at hfal hend ⊢
  obtain ⟨G, hG⟩ : ∃ G, G = goN a b := ⟨_, rfl⟩
  have hG0 : G 0 = true := by rw [hG]; rfl
  rw [← hG] at hend hstep
  obtain ⟨N, hN⟩ : ∃ N, N = a.length := ⟨_, rfl⟩
  obtain ⟨M, hM⟩ : ∃ N, N = b.length := ⟨_, rfl⟩
  rw [← hN] at HA HP HBB hfal hend h32 ⊢
  rw [← hM] at HBB ⊢
  obtain ⟨X1, hX1⟩ : ∃ F : Nat → Int, F = fun k : Nat => apS vx a a ((k : Int) + 1) := ⟨_, rfl⟩
  obtain ⟨Y1, hY1⟩ : ∃ F : Nat → Int, F = fun k : Nat => apS vy a a ((k : Int) + 1) := ⟨_, rfl⟩
  obtain ⟨X2, hX2⟩ : ∃ F : Nat → Int, F = fun k : Nat => apS vx b b ((k : Int) + 1) := ⟨_, rfl⟩
  obtain ⟨Y2, hY2⟩ : ∃ F : Nat → Int, F = fun k : Nat => apS vy b b ((k : Int) + 1) := ⟨_, rfl⟩
  obtain ⟨X3, hX3⟩ : ∃ F : Nat → Int, F = fun k : Nat => goT vx a b ((k : Int) + 1) := ⟨_, rfl⟩
  obtain ⟨Y3, hY3⟩ : ∃ F : Nat → Int, F = fun k : Nat => goT vy a b ((k : Int) + 1) := ⟨_, rfl⟩
  obtain ⟨Z, hZ⟩ : ∃ F : Nat → Bool, F = fun k : Nat => goZ a b ((k : Int) + 1) := ⟨_, rfl⟩
  have HA2 : ∀ k : Nat, k + 1 < N → ∀ w', Below w.heap.size w w' → Calls Try.prog 22 #[.slice pa N ca, .slice pa N ca, .int .i64 ((k : Int) + 1)] w' (Ret w' (.agg #[.int .i64 (X1 k), .int .i64 (Y1 k)])) := fun k hk w' h => by rw [hX1, hY1]; exact HA k hk w' h
  have HB2 : ∀ k : Nat, k + 1 < N → ∀ w', Below w.heap.size w w' → Calls Try.prog 22 #[.slice pb M cb, .slice pb M cb, .int .i64 ((k : Int) + 1)] w' (Ret w' (.agg #[.int .i64 (X2 k), .int .i64 (Y2 k)])) := fun k hk w' h => by rw [hX2, hY2]; exact HBB k hk w' h
  have HP2 : ∀ k : Nat, k + 1 < N → ∀ w', Calls Try.prog 21 #[.agg #[.int .i64 (X1 k), .int .i64 (Y1 k)], .agg #[.int .i64 (X2 k), .int .i64 (Y2 k)]] w' (Ret w' (.agg #[.int .i64 (X3 k), .int .i64 (Y3 k)])) := fun k hk w' => by rw [hX1, hY1, hX2, hY2, hX3, hY3]; exact HP k hk w'
  have hz2 : ∀ k : Nat, Z k = (decide (X3 k = 0) && decide (Y3 k = 0)) := fun k => by rw [hZ, hX3, hY3]; exact hz k
  have hfal2 : ∀ k : Nat, k + 1 < N → Z k = false → R = false := fun k hk h => hfal k hk (by rw [hZ] at h; exact h)
  have hstep2 : ∀ k, G (k + 1) = (G k && Z k) := fun k => by rw [hZ]; exact hstep k
  have HA' := Lib.hid HA2
  have HB' := Lib.hid HB2
  have HP' := Lib.hid HP2
  have HF := Lib.hid hfal2
  have HE := Lib.hid hend
  have HST := Lib.hid hstep2
  have HG0 := Lib.hid hG0
  have HZ := Lib.hid hz2
  clear HA HA2 HBB HB2 HP HP2 hfal hfal2 hend hstep hstep2 hG0 hz hz2 hR hG hN hM hX1 hY1 hX2 hY2 hX3 hY3 hZ ha hb hva hvb
  go_enter Try.func18, Try.ntmps18
  go_wp2_with fail
  go_loopw [5] (fun i wr => ∃ k : Nat, k ≤ N - 1 ∧ i = .int .i64 ((k : Int) + 1) ∧ G k = true ∧ Below w.heap.size w wr) (fun i _ => N - (intOf i).toNat)
  case atStart => exact ⟨0, Nat.zero_le _, rfl, HG0.out, Below.refl _ _⟩
  case round =>
    obtain ⟨k, hk, rfl, hg, hbel⟩ := hrel
    have HBEL := Lib.hid hbel
    have HG := Lib.hid hg
    clear hbel hg
    by_cases hlt : k + 1 < N
    · have h0 : (0 : Int) ≤ (k : Int) := by omega
      have h1 : (k : Int) + 1 < (N : Int) := by omega
      have HAk := Lib.hid (HA'.out k hlt)
      have HBk := Lib.hid (HB'.out k hlt)
      have HPk := Lib.hid (HP'.out k hlt)
      have hzk := HZ.out k
      have hf := HF.out k hlt
      have hst := HST.out k
      obtain ⟨x1, hx1⟩ : ∃ x, x = X1 k := ⟨_, rfl⟩
      obtain ⟨y1, hy1⟩ : ∃ x, x = Y1 k := ⟨_, rfl⟩
      obtain ⟨x2, hx2⟩ : ∃ x, x = X2 k := ⟨_, rfl⟩
      obtain ⟨y2, hy2⟩ : ∃ x, x = Y2 k := ⟨_, rfl⟩
      obtain ⟨x3, hx3⟩ : ∃ x, x = X3 k := ⟨_, rfl⟩
      obtain ⟨y3, hy3⟩ : ∃ x, x = Y3 k := ⟨_, rfl⟩
      rw [← hx1, ← hy1] at HAk HPk
      rw [← hx2, ← hy2] at HBk HPk
      rw [← hx3, ← hy3] at HPk hzk
      clear hx1 hy1 hx2 hy2 hx3 hy3
      by_cases hzz : x3 = 0 ∧ y3 = 0
      · obtain ⟨rfl, rfl⟩ := hzz
        have hg2 : G (k + 1) = true := by rw [hst, HG.out, hzk]; rfl
        have HG2 := Lib.hid hg2
        clear hzk hf hst hg2
        go_wp2_with fail
        refine (HAk.out _ HBEL.out).mono ?_
        rintro e w2 ⟨rfl, hb2⟩
        have HBEL2 := Lib.hid (joins HBEL.out hb2)
        clear hb2
        go_wp2_with fail
        refine (HBk.out _ HBEL2.out).mono ?_
        rintro e w3 ⟨rfl, hb3⟩
        have HBEL3 := Lib.hid (joins HBEL2.out hb3)
        clear hb3
        go_wp2_with fail
        refine (HPk.out _).mono ?_
        rintro e w4 ⟨rfl, hb4⟩
        have HBEL4 := Lib.hid (joins HBEL3.out hb4)
        clear hb4
        go_wp2_with fail
        go_roundw
        case rel => exact ⟨k + 1, by omega, by go_num, HG2.out, HBEL4.out⟩
        case measure => simp [intOf]; omega
      · have hr : R = false := hf (by
          rw [hzk]
          by_cases h1 : x3 = 0
          · have h2 : y3 ≠ 0 := fun h => hzz ⟨h1, h⟩
            rw [decide_eq_false h2, Bool.and_false]
          · rw [decide_eq_false h1, Bool.false_and])
        have HR := Lib.hid hr
        have hne : (((x3 == 0) && (y3 == 0)) : Bool) = false := by
          by_cases h1 : x3 = 0
          · have h2 : y3 ≠ 0 := fun h => hzz ⟨h1, h⟩
            simp [h2]
          · simp [h1]
        have HNE := Lib.hid hne
        clear hzk hf hst hr hne
        go_wp2_with fail
        refine (HAk.out _ HBEL.out).mono ?_
        rintro e w2 ⟨rfl, hb2⟩
        have HBEL2 := Lib.hid (joins HBEL.out hb2)
        clear hb2
        go_wp2_with fail
        refine (HBk.out _ HBEL2.out).mono ?_
        rintro e w3 ⟨rfl, hb3⟩
        have HBEL3 := Lib.hid (joins HBEL2.out hb3)
        clear hb3
        go_wp2_with fail
        refine (HPk.out _).mono ?_
        rintro e w4 ⟨rfl, hb4⟩
        have HBEL4 := Lib.hid (joins HBEL3.out hb4)
        clear hb4
        go_wp2_with fail
        all_goals
          go_returns
          exact ⟨ret_bool HR.out.symm, HBEL4.out⟩
    · have he : k = N - 1 := by omega
      have h1 : (N : Int) ≤ (k : Int) + 1 := by omega
      subst he
      have hr := HE.out HG.out
      have HR := Lib.hid hr
      clear hr
      go_wp2_with fail
      go_returns
      exact ⟨ret_bool HR.out.symm, HBEL.out⟩

end Go.Proofs.Ytcpeikkkegpdhaa
