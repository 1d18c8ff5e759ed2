/- The program's step of a transform. -/
import Derived.Test.YtccjmigdebchiaaIBf
namespace Go.Proofs.Ytccjmigdebchiaa
set_option maxRecDepth 100000
open Go.RowKit

theorem grownTrans {w w1 w2 : World} {row : Option Nat} (h : w.grownBy w1 row) (h' : w1.grownBy w2 row) : w.grownBy w2 row := grown_trans h h'
/-- The base of the digits. -/
def baW (wv : Nat) : Nat := if wv = 2 then 2 else 4
set_option maxHeartbeats 1000000 in
theorem base_any (wv : Nat) (w : World) : Calls Try.prog 62 #[.int .i64 wv] w (Pure w (.int .i64 (baW wv))) := by
  by_cases h : wv = 2
  · subst h
    go_enter Try.func62, Try.ntmps62
    go_wp2_with fail
    go_returns
    exact ⟨rfl, rfl⟩
  · have h2 : ((wv : Int) == 2) = false := by simp; omega
    have e : baW wv = 4 := if_neg h
    rw [e]
    clear h e
    go_enter Try.func62, Try.ntmps62
    go_wp2_with fail
    go_returns
    exact ⟨rfl, rfl⟩
/-- A call that makes a row of sums. -/
def MakesT (w : World) (n : Nat) (Z : Nat → Int × Int) (e : Ending) (w' : World) : Prop :=
  ∃ g E, e = .returned (.slice (some ⟨g, 0, none⟩) n n) ∧ RowC w' w.heap.size g n E ∧ (∀ i, i < n → FA (E i).1 (Z i).1 ∧ FA (E i).2 (Z i).2) ∧ Below w.heap.size w w'
set_option maxRecDepth 100000 in
set_option maxHeartbeats 4000000 in
theorem step_any (wv s N g2 B2 : Nat) (C : Nat → Nat × Nat) (Z : Nat → Int × Int) (M : Int) (hw : wv ≤ 3) (hs1 : 1 ≤ s) (hdv : N % (baW wv * s) = 0) (hN1 : 1 ≤ N) (hN32 : N ≤ 32)
    (hM1 : ((baW wv - 1 : Nat) : Int) * M ≤ 16777215) (hM2 : (baW wv : Int) * M ≤ 33554431) (hM0 : 0 ≤ M) (hZ : upTo Z N M) (w : World) (hcut : RowC w B2 g2 N C) (hC : ∀ q, q < N → FK .f32 (C q).1 (Z q).1 ∧ FK .f32 (C q).2 (Z q).2) :
    Calls Try.prog 64 #[.int .i64 wv, .slice (some ⟨g2, 0, none⟩) N N, .int .i64 s] w (MakesT w N (stF wv (baW wv) s Z)) := by
  obtain ⟨i0, hi, hz0, hz1, hz2⟩ := info_parts infoC
  have HBA := Lib.hid (base_any wv)
  have hbb : baW wv = 2 ∨ baW wv = 4 := by unfold baW; split <;> simp
  obtain ⟨b, hb⟩ : ∃ b, b = baW wv := ⟨_, rfl⟩
  rw [← hb] at HBA hbb hdv hM1 hM2 ⊢
  obtain ⟨m, hm⟩ : ∃ m, m = b * s := ⟨_, rfl⟩
  rw [← hm] at hdv
  have hm1 : 1 ≤ m := by
    have : 2 * 1 ≤ b * s := Nat.mul_le_mul (by omega) hs1
    omega
  obtain ⟨K, hK⟩ : ∃ K, N = K * m := ⟨N / m, by have := Nat.div_add_mod N m; rw [Nat.mul_comm]; omega⟩
  have hK1 : 1 ≤ K := by
    rcases Nat.eq_zero_or_pos K with h | h
    · subst h; simp at hK; omega
    · exact h
  have hm32 : m ≤ 32 := by
    have : 1 * m ≤ K * m := Nat.mul_le_mul_right _ hK1
    omega
  have hsm : s ≤ m := by
    have : 1 * s ≤ b * s := Nat.mul_le_mul_right _ (by omega)
    omega
  have hb1 : 2 ≤ b := by omega
  have hb2 : b ≤ 4 := by omega
  have hwm : wrap64 ((b : Int) * (s : Int)) = (m : Int) := by
    rw [← Int.natCast_mul, ← hm]; exact IntWalk.wrap64_in _ ⟨by omega, by omega⟩
  have HMB := Lib.hid hm
  have HKN := Lib.hid hK
  have HM := Lib.hid (And.intro hM1 (And.intro hM2 hM0))
  have HZ := Lib.hid hZ
  have HCT := Lib.hid hcut
  have HCC := Lib.hid hC
  clear hb hbb hm hK hM1 hM2 hM0 hZ hcut hC hdv
  go_enter Try.func64, Try.ntmps64
  go_wp2_with (at_make; refine wpList_make_full _ rfl _ _ 78 rfl w.heap.size 47 i0 (.complex .f32 0 0) 1 Try.underlying78 hi hz0 hz1 _ _ _ _ N rfl rfl rfl rfl ?b2 ?b3 (Nat.le_refl _) ?_)
  case b2 => rw [hz2]; omega
  case b3 => unfold maxLen; omega
  intro w0 hown0 hgrow0
  have hrow0 : RowC w0 w.heap.size w.heap.size N (fun _ => (0, 0)) := by
    unfold RowC
    rw [← cx_zeros]
    simpa using hown0
  have hb0 : Below w.heap.size w w0 := (Below.refl _ _).grown hgrow0 (Nat.le_refl _) (fun k h => by cases h)
  have HB0 := Lib.hid hb0
  have HR0 := Lib.hid hrow0
  have HC0 := Lib.hid (HCT.out.below hb0)
  have HNE := Lib.hid (show w.heap.size ≠ g2 from Ne.symm (Nat.ne_of_lt HCT.out.lt.2))
  have HGE := Lib.hid (Nat.le_refl w.heap.size)
  obtain ⟨g, hg⟩ : ∃ g, g = w.heap.size := ⟨_, rfl⟩
  rw [← hg] at HR0 HNE
  rw [show (Value.slice (some ⟨w.heap.size, 0, none⟩) N N) = Value.slice (some ⟨g, 0, none⟩) N N by rw [hg]]
  have HR0 := Lib.hid (show RowC w0 w.heap.size g N (fun _ => (0, 0)) by rw [← hg]; exact HR0.out)
  have HGE := Lib.hid (show w.heap.size ≤ g by rw [hg]; exact Nat.le_refl _)
  clear hown0 hgrow0 hrow0 hb0 hg
  go_wp2_with fail
  refine (HBA.out _).mono ?_
  rintro e w1 ⟨rfl, rfl⟩
  go_wp2_with fail
  (try rw [hwm])
  go_loopw [9] (fun i wr => ∃ (c : Nat) (E : Nat → Nat × Nat), c ≤ K ∧ i = .int .i64 ((c * m : Nat) : Int) ∧ RowC wr w.heap.size g N E ∧ (∀ i, i < c * m → FA (E i).1 (stF wv b s Z i).1 ∧ FA (E i).2 (stF wv b s Z i).2) ∧ (∀ i, c * m ≤ i → E i = (0, 0)) ∧ Below w.heap.size w wr) (fun i _ => 1000 - (intOf i).toNat)
  case atStart => exact ⟨0, _, Nat.zero_le _, by rw [Nat.zero_mul]; rfl, HR0.out, fun i hi => absurd hi (by rw [Nat.zero_mul]; exact Nat.not_lt_zero _), fun _ _ => rfl, HB0.out⟩
  case round =>
    obtain ⟨c, E, hc, rfl, hr, hd, hze, hbel⟩ := hrel
    have HR := Lib.hid hr
    have HD := Lib.hid hd
    have HZE := Lib.hid hze
    have HB := Lib.hid hbel
    have HC := Lib.hid (HCT.out.below hbel)
    clear hr hd hze hbel
    by_cases hlt : c < K
    · have hcm : c * m + m ≤ N := by
        have : (c + 1) * m ≤ K * m := Nat.mul_le_mul_right _ hlt
        rw [Nat.add_mul, ← HKN.out] at this
        omega
      have hnx : (c + 1) * m = c * m + m := by rw [Nat.add_mul]; omega
      have hzr : ∀ q, q < m → E (c * m + q) = (0, 0) := fun q _ => HZE.out _ (by omega)
      have hz0' : upTo (fun q => Z (c * m + q)) m M := upTo_part HZ.out _ _ hcm
      have hfc : ∀ q, q < m → FK .f32 (C (c * m + q)).1 (Z (c * m + q)).1 ∧ FK .f32 (C (c * m + q)).2 (Z (c * m + q)).2 := fun q hq => HCC.out _ (by omega)
      obtain ⟨f, hf⟩ : ∃ f, f = c * m := ⟨_, rfl⟩
      rw [← hf] at hcm hnx hzr hz0' hfc ⊢
      have HF := Lib.hid hf
      have HZR := Lib.hid hzr
      have HZ0 := Lib.hid hz0'
      have HFC := Lib.hid hfc
      have HNX := Lib.hid (show (f : Int) + (m : Int) = (((c + 1) * m : Nat) : Int) by rw [hnx]; push_cast; rfl)
      have HMS := Lib.hid (show 1000 - (intOf (.int .i64 ((f : Int) + (m : Int)))).toNat < 1000 - (intOf (.int .i64 (f : Int))).toNat by simp [intOf]; omega)
      have h0 : (0 : Int) ≤ (f : Int) := by omega
      have h1 : (f : Int) < (N : Int) := by omega
      have h2 : (f : Int) + (m : Int) ≤ (N : Int) := by omega
      obtain ⟨t2, ht2⟩ : ∃ t2, t2 = f + m := ⟨_, rfl⟩
      have HT2 := Lib.hid (show (t2 : Int) = (f : Int) + (m : Int) by rw [ht2]; push_cast; rfl)
      have HT3 := Lib.hid (show f ≤ t2 ∧ t2 ≤ N ∧ (t2 = f) = False ∧ t2 - f = m by refine ⟨by omega, by omega, by simp; omega, by omega⟩)
      clear hf hnx hzr hz0' hfc ht2
      go_wp2_with fail
      rw [← HT2.out]
      refine wp_region_held_drew (S := (fun w' => World.grownBy wr w' (some (g)))) (by kernel_rfl) (grownDrew (World.grownBy.refl _ _)) ?_
      obtain ⟨d1, hdw⟩ : ∃ w', w' = wr.drew := ⟨_, rfl⟩
      rw [← hdw]
      have hb : Below wr.heap.size wr d1 := by rw [hdw]; exact belowN (Below.refl _ _) 1
      have F1_HR := Lib.hid (RowC.below HR.out hb)
      have F1_HC := Lib.hid (RowC.below HC.out hb)
      have F1_HB := Lib.hid (joins HB.out hb)
      clear hdw hb
      intro hHeld
      refine' wpAnyH_take (i := 0) (v := _) rfl (by kernel_rfl) (by kernel_rfl) (by kernel_rfl) (fun _ _ _ h => h) (Or.inl ⟨by rfl, ?hy1⟩) (by assumption) ?rest1
      case hy1 =>
        intro w h
        (try clear h)
        go_simp
        (try with_reducible rfl)
      (try simp only [Act.put, List.getElem_toArray, List.getElem_cons_zero, List.setIfInBounds_toArray, List.set_cons_zero, List.set_cons_succ])
      refine' wpAnyH_take (i := 1) (v := _) rfl (by kernel_rfl) (by kernel_rfl) (by kernel_rfl) (fun _ _ _ h => h) (Or.inl ⟨by rfl, ?hy2⟩) (by assumption) ?rest2
      case hy2 =>
        intro w h
        (try clear h)
        go_simp
        (try with_reducible rfl)
      (try simp only [Act.put, List.getElem_toArray, List.getElem_cons_zero, List.getElem_cons_succ, List.setIfInBounds_toArray, List.set_cons_zero, List.set_cons_succ])
      refine' wpAnyH_take (i := 2) (v := _) rfl (by kernel_rfl) (by kernel_rfl) (by kernel_rfl) (fun _ _ _ h => h) (Or.inl ⟨by rfl, ?hy3⟩) (by assumption) ?rest3
      case hy3 =>
        intro w h
        (try clear h)
        go_simp
        (try with_reducible rfl)
      (try simp only [Act.put, List.getElem_toArray, List.getElem_cons_zero, List.getElem_cons_succ, List.setIfInBounds_toArray, List.set_cons_zero, List.set_cons_succ])
      refine' wpAnyH_take (i := 3) (v := _) rfl (by kernel_rfl) (by kernel_rfl) (by kernel_rfl) (fun _ _ _ h => h) (Or.inl ⟨by rfl, ?hy4⟩) (by assumption) ?rest4
      case hy4 =>
        intro w h
        (try clear h)
        go_simp
        (try with_reducible rfl)
      (try simp only [Act.put, List.getElem_toArray, List.getElem_cons_zero, List.getElem_cons_succ, List.setIfInBounds_toArray, List.set_cons_zero, List.set_cons_succ])
      refine' wpAnyH_take (i := 4) (v := _) rfl (by kernel_rfl) (by kernel_rfl) (by kernel_rfl) (fun _ _ _ h => h) (Or.inl ⟨by rfl, ?hy5⟩) (by assumption) ?rest5
      case hy5 =>
        intro w h
        (try clear h)
        go_simp
        (try with_reducible rfl)
      (try simp only [Act.put, List.getElem_toArray, List.getElem_cons_zero, List.getElem_cons_succ, List.setIfInBounds_toArray, List.set_cons_zero, List.set_cons_succ])
      refine' wpAnyH_take (i := 5) (v := _) rfl (by kernel_rfl) (by kernel_rfl) (by kernel_rfl) (fun _ _ _ h => h) (Or.inl ⟨by rfl, ?hy6⟩) (by assumption) ?rest6
      case hy6 =>
        intro w h
        have ⟨c1, c2, c3, c4⟩ := HT3.out
        (try clear h)
        go_simp
        (try with_reducible rfl)
      (try simp only [Act.put, List.getElem_toArray, List.getElem_cons_zero, List.getElem_cons_succ, List.setIfInBounds_toArray, List.set_cons_zero, List.set_cons_succ])
      refine' wpAnyH_take (i := 6) (v := _) rfl (by kernel_rfl) (by kernel_rfl) (by kernel_rfl) (fun _ _ _ h => h) (Or.inl ⟨by rfl, ?hy7⟩) (by assumption) ?rest7
      case hy7 =>
        intro w h
        (try clear h)
        go_simp
        (try with_reducible rfl)
      (try simp only [Act.put, List.getElem_toArray, List.getElem_cons_zero, List.getElem_cons_succ, List.setIfInBounds_toArray, List.set_cons_zero, List.set_cons_succ])
      refine' wpAnyH_take (i := 7) (v := _) rfl (by kernel_rfl) (by kernel_rfl) (by kernel_rfl) (fun _ _ _ h => h) (Or.inl ⟨by rfl, ?hy8⟩) (by assumption) ?rest8
      case hy8 =>
        intro w h
        (try clear h)
        go_simp
        (try with_reducible rfl)
      (try simp only [Act.put, List.getElem_toArray, List.getElem_cons_zero, List.getElem_cons_succ, List.setIfInBounds_toArray, List.set_cons_zero, List.set_cons_succ])
      refine' wpAnyH_take (i := 8) (v := _) rfl (by kernel_rfl) (by kernel_rfl) (by kernel_rfl) (fun _ _ _ h => h) (Or.inl ⟨by rfl, ?hy9⟩) (by assumption) ?rest9
      case hy9 =>
        intro w h
        (try clear h)
        go_simp
        (try with_reducible rfl)
      (try simp only [Act.put, List.getElem_toArray, List.getElem_cons_zero, List.getElem_cons_succ, List.setIfInBounds_toArray, List.set_cons_zero, List.set_cons_succ])
      refine' wpAnyH_take (i := 9) (v := _) rfl (by kernel_rfl) (by kernel_rfl) (by kernel_rfl) (fun _ _ _ h => h) (Or.inl ⟨by rfl, ?hy10⟩) (by assumption) ?rest10
      case hy10 =>
        intro w h
        (try clear h)
        go_simp
        (try with_reducible rfl)
      (try simp only [Act.put, List.getElem_toArray, List.getElem_cons_zero, List.getElem_cons_succ, List.setIfInBounds_toArray, List.set_cons_zero, List.set_cons_succ])
      refine' wpAnyH_take (i := 10) (v := _) rfl (by kernel_rfl) (by kernel_rfl) (by kernel_rfl) (fun _ _ _ h => h) (Or.inl ⟨by rfl, ?hy11⟩) (by assumption) ?rest11
      case hy11 =>
        intro w h
        have ⟨c1, c2, c3, c4⟩ := HT3.out
        (try clear h)
        go_simp
        (try with_reducible rfl)
      (try simp only [Act.put, List.getElem_toArray, List.getElem_cons_zero, List.getElem_cons_succ, List.setIfInBounds_toArray, List.set_cons_zero, List.set_cons_succ])
      refine' wpAnyH_take (i := 11) (v := _) rfl (by kernel_rfl) (by kernel_rfl) (by kernel_rfl) (fun _ _ _ h => h) (Or.inl ⟨by rfl, ?hy12⟩) (by assumption) ?rest12
      case hy12 =>
        intro w h
        (try clear h)
        go_simp
        (try with_reducible rfl)
      (try simp only [Act.put, List.getElem_toArray, List.getElem_cons_zero, List.getElem_cons_succ, List.setIfInBounds_toArray, List.set_cons_zero, List.set_cons_succ])
      refine wpAnyH_ready (rs := [12]) (by kernel_rfl) (by simp) ?_
      refine AllReadyH.cons rfl (fun K hK => ?_) AllReadyH.nil
      go_simp
      refine (butterfly_any wv b s m N f g g2 w.heap.size B2 E C (fun q => Z (f + q)) M hw hb1 hb2 hs1 HMB.out hm32 (by omega) hN32 HM.out.1 HM.out.2.1 HM.out.2.2 HZ0.out d1 F1_HR.out F1_HC.out HNE.out HZR.out HFC.out).mono ?_
      rintro e w4 ⟨rfl, E1, hr1, ho1, hf1, hg1⟩
      have HR1 := Lib.hid hr1
      have HB1 := Lib.hid (gjoin F1_HB.out hg1 (fun k hk => by have := Option.some.inj hk; rw [← this]; exact HGE.out))
      have HDN := Lib.hid (show ∀ i, i < (c + 1) * m → FA (E1 i).1 (stF wv b s Z i).1 ∧ FA (E1 i).2 (stF wv b s Z i).2 from fun i hi => by
        rw [Nat.add_mul, Nat.one_mul, ← HF.out] at hi
        by_cases hc : i < f
        · rw [ho1 i (Or.inl hc)]; exact HD.out i (by rw [← HF.out]; exact hc)
        · obtain ⟨q, rfl⟩ : ∃ q, i = f + q := ⟨i - f, by omega⟩
          have h := hf1 q (by omega)
          have hst := stF_at wv b s Z c q (by rw [← HMB.out]; omega)
          rw [← HMB.out, ← HF.out] at hst
          rw [hst]
          exact h)
      have HZN := Lib.hid (show ∀ i, (c + 1) * m ≤ i → E1 i = (0, 0) from fun i hi => by
        rw [Nat.add_mul, Nat.one_mul, ← HF.out] at hi
        rw [ho1 i (Or.inr hi)]; exact HZE.out i (by rw [← HF.out]; omega))
      have hHeld := grownTrans hHeld hg1
      clear hr1 ho1 hf1 hg1
      refine hK.out _ _ hHeld (fun hHeld => ?_)
      clear hK K
      (try simp only [Act.put, List.getElem_toArray, List.getElem_cons_zero, List.getElem_cons_succ, List.setIfInBounds_toArray, List.set_cons_zero, List.set_cons_succ])
      refine wpAnyH_done (by kernel_rfl) ?_ _
      go_wp2_with fail
      go_roundw
      case rel => exact ⟨c + 1, E1, by omega, congrArg (Value.int .i64) HNX.out, HR1.out, HDN.out, HZN.out, HB1.out⟩
      case measure => exact HMS.out
    · obtain rfl : c = K := by omega
      have hex : c * m = N := HKN.out.symm
      have HDN := Lib.hid (show ∀ i, i < N → FA (E i).1 (stF wv b s Z i).1 ∧ FA (E i).2 (stF wv b s Z i).2 from fun i hi => HD.out i (by rw [hex]; exact hi))
      rw [hex]
      clear hex
      go_wp2_with fail
      go_returns
      exact ⟨_, _, rfl, HR.out, HDN.out, HB.out⟩
end Go.Proofs.Ytccjmigdebchiaa
