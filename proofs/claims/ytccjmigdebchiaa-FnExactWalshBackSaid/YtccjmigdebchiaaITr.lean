/- The program's transform: steps of one digit after the other, by goto. -/
import Derived.Test.YtccjmigdebchiaaIStp
import Derived.WalkMore
import Derived.ScopeJumps
namespace Go.Proofs.Ytccjmigdebchiaa
set_option maxRecDepth 100000
open Go.RowKit

/-- A call that leaves a row of sums, its own or one that was there. -/
def Leaves (w : World) (n : Nat) (Z : Nat → Int × Int) (e : Ending) (w' : World) : Prop :=
  ∃ g E, e = .returned (.slice (some ⟨g, 0, none⟩) n n) ∧ RowC w' 0 g n E ∧ (∀ i, i < n → FA (E i).1 (Z i).1 ∧ FA (E i).2 (Z i).2) ∧ Below w.heap.size w w'
/-- The same, and the row is a new one or the argument's. -/
def LeavesAt (w : World) (g2 n : Nat) (Z : Nat → Int × Int) (e : Ending) (w' : World) : Prop :=
  ∃ g E, e = .returned (.slice (some ⟨g, 0, none⟩) n n) ∧ RowC w' 0 g n E ∧ (∀ i, i < n → FA (E i).1 (Z i).1 ∧ FA (E i).2 (Z i).2) ∧ Below w.heap.size w w' ∧ (g = g2 ∨ w.heap.size ≤ g)
/-- The bounds of all steps. -/
theorem tr_le {w b K N : Nat} {Z : Nat → Int × Int} (hb : b = 2 ∨ b = 4) (hN : N = b ^ K) (hZ : upTo Z N 1000000) : ∀ j, j ≤ K → upTo (trF w b j Z) N (((b ^ j : Nat) : Int) * 1000000)
  | 0, _ => by simpa [trF] using hZ
  | j + 1, hj => by
    have ih := tr_le (w := w) hb hN hZ j (by omega)
    have hpos : 0 < b * b ^ j := Nat.mul_pos (by omega) (Nat.pow_pos (by omega))
    have hdv : N % (b * b ^ j) = 0 := by
      rw [hN, ← Nat.pow_succ', show K = (j + 1) + (K - (j + 1)) by omega, Nat.pow_add]
      exact Nat.mul_mod_right _ _
    have h := stF_le (w := w) hpos hdv ih
    rw [show (b : Int) * (((b ^ j : Nat) : Int) * 1000000) = ((b ^ (j + 1) : Nat) : Int) * 1000000 by rw [Nat.pow_succ', Int.natCast_mul, Int.mul_assoc]] at h
    exact h
theorem pow_small {b K N : Nat} (hb : b = 2 ∨ b = 4) (hN : N = b ^ K) (hN32 : N ≤ 32) (j : Nat) (hj : j < K) : 1 ≤ b ^ j ∧ b ^ j * b ≤ N ∧ b ^ j < N ∧ b ^ j * b = b ^ (j + 1) ∧ (b - 1) * b ^ j ≤ 16 := by
  have h1 : 1 ≤ b ^ j := Nat.pow_pos (by omega)
  have h2 : b ^ j * b = b ^ (j + 1) := (Nat.pow_succ ..).symm
  have h3 : b ^ (j + 1) ≤ b ^ K := Nat.pow_le_pow_right (by omega) (by omega)
  rw [← hN] at h3
  have h4 : b ^ j * 2 ≤ b ^ j * b := Nat.mul_le_mul_left _ (by omega)
  refine ⟨h1, by omega, by omega, h2, ?_⟩
  rcases hb with rfl | rfl
  · omega
  · have hK : K ≤ 2 := by
      have h5 : (4 : Nat) ^ K < 4 ^ 3 := by omega
      have := (Nat.pow_lt_pow_iff_right (by omega : 1 < 4)).1 h5
      omega
    have : (4 : Nat) ^ (j + 1) ≤ 4 ^ 2 := Nat.pow_le_pow_right (by omega) (by omega)
    omega
theorem tr_meas (P b : Nat) (h1 : 1 ≤ P) (hb : 2 ≤ b) (h2 : P * b ≤ 32) : 100 - (((P * b : Nat) : Int)).toNat < 100 - ((P : Int)).toNat := by
  have : P * 2 ≤ P * b := Nat.mul_le_mul_left _ hb
  obtain ⟨q, hq⟩ : ∃ q, q = P * b := ⟨_, rfl⟩
  rw [← hq] at h2 this ⊢
  omega
theorem tr_wrap (P b : Nat) (h2 : P * b ≤ 32) : wrap64 ((P : Int) * (b : Int)) = ((P * b : Nat) : Int) := by
  rw [← Int.natCast_mul]
  obtain ⟨q, hq⟩ : ∃ q, q = P * b := ⟨_, rfl⟩
  rw [← hq] at h2 ⊢
  exact IntWalk.wrap64_in _ ⟨by omega, by omega⟩
set_option maxHeartbeats 1000000 in
theorem tr_step (wv N K : Nat) (Z : Nat → Int × Int) (hw : wv ≤ 3) (hNK : N = baW wv ^ K) (hN32 : N ≤ 32) (hZ : upTo Z N 1000000) (hbb : baW wv = 2 ∨ baW wv = 4) : ∀ j, j < K → ∀ (w' : World) g E, RowC w' 0 g N E → (∀ i, i < N → FA (E i).1 (trF wv (baW wv) j Z i).1 ∧ FA (E i).2 (trF wv (baW wv) j Z i).2) → Calls Try.prog 64 #[.int .i64 wv, .slice (some ⟨g, 0, none⟩) N N, .int .i64 ((baW wv ^ j : Nat) : Int)] w' (MakesT w' N (trF wv (baW wv) (j + 1) Z)) := by
  intro j hj w' g E hr hf
  have hle := tr_le (w := wv) hbb hNK hZ j (by omega)
  have hpw := pow_small hbb hNK hN32 j hj
  obtain ⟨b, hb⟩ : ∃ b, b = baW wv := ⟨_, rfl⟩
  have hle' := hle
  rw [← hb] at hle hpw hbb
  obtain ⟨P, hP⟩ : ∃ P, P = b ^ j := ⟨_, rfl⟩
  rw [← hP] at hle hpw
  rw [← hb, ← hP, hb] at hle'
  have hdv : N % (baW wv * baW wv ^ j) = 0 := by
    rw [hNK, ← Nat.pow_succ', show K = (j + 1) + (K - (j + 1)) by omega, Nat.pow_add]
    exact Nat.mul_mod_right _ _
  have hPi : (P : Int) * 1000000 ≤ 16000000 := by
    have : 1 * P ≤ (b - 1) * P := Nat.mul_le_mul_right _ (by omega)
    omega
  have hm1 : ((baW wv - 1 : Nat) : Int) * ((P : Int) * 1000000) ≤ 16777215 := by
    rw [← hb, ← Int.mul_assoc, ← Int.natCast_mul]; omega
  have hm2 : (baW wv : Int) * ((P : Int) * 1000000) ≤ 33554431 := by
    rw [← hb, ← Int.mul_assoc, ← Int.natCast_mul, Nat.mul_comm]; omega
  exact step_any wv (baW wv ^ j) N g 0 E (trF wv (baW wv) j Z) ((P : Int) * 1000000) hw (by rw [← hb, ← hP]; exact hpw.1) hdv (by omega) hN32 hm1 hm2 (by omega) hle' w' hr (fun q hq => by
    have h := hf q hq
    have hz := hle' q hq
    exact ⟨h.1.1 (by omega), h.2.1 (by omega)⟩)
set_option maxRecDepth 100000 in
set_option maxHeartbeats 4000000 in
theorem transform_at (wv N K g2 B2 : Nat) (C : Nat → Nat × Nat) (Z : Nat → Int × Int) (hw : wv ≤ 3) (hNK : N = baW wv ^ K) (hN32 : N ≤ 32)
    (hZ : upTo Z N 1000000) (w : World) (hcut : RowC w B2 g2 N C) (hC : ∀ q, q < N → FK .f32 (C q).1 (Z q).1 ∧ FK .f32 (C q).2 (Z q).2) :
    Calls Try.prog 59 #[.int .i64 wv, .slice (some ⟨g2, 0, none⟩) N N] w (LeavesAt w g2 N (trF wv (baW wv) K Z)) := by
  have HBA := Lib.hid (base_any wv)
  have hbb : baW wv = 2 ∨ baW wv = 4 := by unfold baW; split <;> simp
  have hst := tr_step wv N K Z hw hNK hN32 hZ hbb
  have HPW := Lib.hid (fun j hj => pow_small hbb hNK hN32 j hj)
  obtain ⟨b, hb⟩ : ∃ b, b = baW wv := ⟨_, rfl⟩
  rw [← hb] at HBA hbb hst HPW hNK ⊢
  have HNK := Lib.hid hNK
  have hs2 : ∀ j, j < K → ∀ (w' : World) g E, RowC w' 0 g N E → (∀ i, i < N → FA (E i).1 (trF wv b j Z i).1 ∧ FA (E i).2 (trF wv b j Z i).2) → Calls Try.prog 64 #[.int .i64 wv, .slice (some ⟨g, 0, none⟩) N N, .int .i64 ((b ^ j : Nat) : Int)] w' (MakesT w' N (trF wv b (j + 1) Z)) := fun j hj w' g E hr hf => hst j hj w' g E hr hf
  have HST := Lib.hid hs2
  have hN1 : 1 ≤ N := by rw [hNK]; exact Nat.pow_pos (by omega)
  have hFA0 : ∀ i, i < N → FA (C i).1 (trF wv b 0 Z i).1 ∧ FA (C i).2 (trF wv b 0 Z i).2 := fun i hi => by
    have h := hC i hi
    have hz := hZ i hi
    exact ⟨FA_of h.1 (by show (Z i).1.natAbs < _; omega), FA_of h.2 (by show (Z i).2.natAbs < _; omega)⟩
  have HR := Lib.hid (hcut.mono (Nat.zero_le _))
  have HF := Lib.hid hFA0
  have HB := Lib.hid (Below.refl w.heap.size w)
  clear hst hs2 hNK hb hZ hcut hC hFA0
  go_enter Try.func59, Try.ntmps59
  go_wp2_with fail
  refine wp_scope_jumps 0 (fun a' w' => ∃ (j gj : Nat) (E : Nat → Nat × Nat) (u4 u6 u7 u8 u9 u10 u11 u12 u13 u14 u15 u16 u17 u18 : Value), a' = { tmps := #[.int .i64 wv, .slice (some ⟨gj, 0, none⟩) N N, undef, undef, u4, .int .i64 ((b ^ j : Nat) : Int), u6, u7, u8, u9, u10, u11, u12, u13, u14, u15, u16, u17, u18], defers := [] } ∧ j ≤ K ∧ RowC w' 0 gj N E ∧ (∀ i, i < N → FA (E i).1 (trF wv b j Z i).1 ∧ FA (E i).2 (trF wv b j Z i).2) ∧ Below w.heap.size w w' ∧ (gj = g2 ∨ w.heap.size ≤ gj)) (fun a' _ => 100 - (intOf (a'.tmps.getD 5 undef)).toNat) rfl ?_ ?_
  · go_wp2_with fail
    go_step3
    by_cases hlt : 0 < K
    · obtain ⟨p1, p2, p3, p4, p5⟩ := HPW.out 0 hlt
      rw [Nat.pow_zero] at p1 p2 p3 p4
      have h1 : (1 : Int) < (N : Int) := by omega
      have hwb : wrap64 (1 * (b : Int)) = (b : Int) := by rw [Int.one_mul]; exact IntWalk.wrap64_in _ ⟨by omega, by omega⟩
      have hst0 := HST.out 0 hlt
      rw [Nat.pow_zero] at hst0
      have HS0 := Lib.hid hst0
      clear p1 p2 p3 p4 p5 hst0
      go_wp2_with fail
      refine (HS0.out w g2 C HR.out HF.out).mono ?_
      rintro e w4 ⟨g4, E4, rfl, hr4, hf4, hb4⟩
      have HG4 := Lib.hid (show g4 = g2 ∨ w.heap.size ≤ g4 from Or.inr (Nat.le_trans HB.out.size hr4.lt.1))
      have HR4 := Lib.hid (hr4.mono (Nat.zero_le _))
      have HF4 := Lib.hid hf4
      have HB4 := Lib.hid (joins HB.out hb4)
      clear hr4 hf4 hb4
      go_wp2_with fail
      refine (HBA.out _).mono ?_
      rintro e w5 ⟨rfl, rfl⟩
      go_wp2_with fail
      go_step3
      exact ⟨rfl, 1, g4, E4, _, _, _, _, _, _, _, _, _, _, _, _, _, _, by rw [Nat.pow_one], by omega, HR4.out, HF4.out, HB4.out, HG4.out⟩
    · obtain rfl : K = 0 := by omega
      have hN : N = 1 := by rw [HNK.out]; rfl
      subst hN
      go_wp2_with fail
      simp only [Exit.jump]
      go_ret
      exact ⟨_, _, rfl, HR.out, HF.out, HB.out, Or.inl rfl⟩
  · rintro a' w' ⟨j, gj, E, u4, u6, u7, u8, u9, u10, u11, u12, u13, u14, u15, u16, u17, u18, rfl, hj, hr, hf, hbl, hgg⟩
    clear HR HF HB
    have HR := Lib.hid hr
    have HF := Lib.hid hf
    have HB := Lib.hid hbl
    have HGG := Lib.hid hgg
    clear hr hf hbl hgg
    by_cases hlt : j < K
    · obtain ⟨p1, p2, p3, p4, p5⟩ := HPW.out j hlt
      have hst0 := HST.out j hlt
      have HS0 := Lib.hid (hst0 w' gj E HR.out HF.out)
      obtain ⟨P, hP⟩ : ∃ P, P = b ^ j := ⟨_, rfl⟩
      rw [← hP] at p1 p2 p3 p4 HS0
      rw [show (((b ^ j : Nat)) : Int) = (P : Int) by rw [hP]]
      have h1 : (P : Int) < (N : Int) := by omega
      have hwb := tr_wrap P b (Nat.le_trans p2 hN32)
      have hms := tr_meas P b p1 (by rcases hbb with rfl | rfl <;> decide) (Nat.le_trans p2 hN32)
      obtain ⟨Q, hQ⟩ : ∃ Q, Q = wrap64 ((P : Int) * (b : Int)) := ⟨_, rfl⟩
      rw [← hwb, ← hQ] at hms
      have HQE := Lib.hid (show Q = ((b ^ (j + 1) : Nat) : Int) by rw [hQ, hwb, p4])
      have HQ := Lib.hid hQ
      have HMS := Lib.hid (show 100 - Q.toNat < 100 - P from hms)
      clear hwb hms hQ
      clear p1 p2 p3 p4 p5 hst0 hP
      go_wp2_with fail
      refine (HS0.out).mono ?_
      rintro e w4 ⟨g4, E4, rfl, hr4, hf4, hb4⟩
      have HG4 := Lib.hid (show g4 = g2 ∨ w.heap.size ≤ g4 from Or.inr (Nat.le_trans HB.out.size hr4.lt.1))
      have HR4 := Lib.hid (hr4.mono (Nat.zero_le _))
      have HF4 := Lib.hid hf4
      have HB4 := Lib.hid (joins HB.out hb4)
      clear hr4 hf4 hb4
      go_wp2_with fail
      refine (HBA.out _).mono ?_
      rintro e w5 ⟨rfl, rfl⟩
      go_wp2_with fail
      go_step3
      rw [← HQ.out]
      refine ⟨rfl, ⟨j + 1, g4, E4, _, _, _, _, _, _, _, _, _, _, _, _, _, _, by rw [HQE.out], by omega, HR4.out, HF4.out, HB4.out, HG4.out⟩, ?_⟩
      simp [intOf]
      exact HMS.out
    · obtain rfl : j = K := by omega
      have HN := Lib.hid HNK.out
      rw [show (((b ^ j : Nat)) : Int) = (N : Int) by rw [← HN.out]]
      go_wp2_with fail
      simp only [Exit.jump]
      go_ret
      exact ⟨_, _, rfl, HR.out, HF.out, HB.out, HGG.out⟩
theorem transform_any (wv N K g2 B2 : Nat) (C : Nat → Nat × Nat) (Z : Nat → Int × Int) (hw : wv ≤ 3) (hNK : N = baW wv ^ K) (hN32 : N ≤ 32)
    (hZ : upTo Z N 1000000) (w : World) (hcut : RowC w B2 g2 N C) (hC : ∀ q, q < N → FK .f32 (C q).1 (Z q).1 ∧ FK .f32 (C q).2 (Z q).2) :
    Calls Try.prog 59 #[.int .i64 wv, .slice (some ⟨g2, 0, none⟩) N N] w (Leaves w N (trF wv (baW wv) K Z)) :=
  (transform_at wv N K g2 B2 C Z hw hNK hN32 hZ w hcut hC).mono (fun _ _ ⟨g, E, h1, h2, h3, h4, _⟩ => ⟨g, E, h1, h2, h3, h4⟩)
end Go.Proofs.Ytccjmigdebchiaa
