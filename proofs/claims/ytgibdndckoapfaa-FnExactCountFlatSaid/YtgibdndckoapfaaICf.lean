/- The program's CountFlat. -/
import Derived.Test.YtgibdndckoapfaaIQs
import Derived.Test.YtgibdndckoapfaaCfM
import Derived.Test.YtgibdndckoapfaaWith
namespace Go.Proofs.Ytgibdndckoapfaa
set_option maxRecDepth 100000
open Go.RowKit

theorem low_iwith (N : Nat) (hN : N ≤ 15) (k : Nat) (hk : k < 4 ^ N) (w : World) : Calls Try.prog 64 #[.int .i64 N, .int .i64 k] w (MakesB w (lowD (k : Int) N) true) := by
  have h15 : (4 : Nat) ^ N ≤ 4 ^ 15 := Nat.pow_le_pow_right (by omega) hN
  have h := iwith_any (N : Int) (k : Int) (by omega) w
  have hok : withOk (N : Int) (k : Int) = true := by
    unfold withOk
    have h4 : ((k : Int) < 4 ^ ((N : Int)).toNat) := by
      rw [show ((N : Int)).toNat = N from rfl]
      have : ((k : Nat) : Int) < ((4 ^ N : Nat) : Int) := by omega
      rw [Int.natCast_pow] at this
      exact this
    rw [decide_eq_true (by omega), decide_eq_true ⟨by omega, h4⟩]; rfl
  have hw : withF (N : Int) (k : Int) = lowD (k : Int) N := by unfold withF; rw [hok, if_pos rfl]; rfl
  rw [hok, hw] at h
  exact h
theorem low_signal (N : Nat) (h : N = 1 ∨ N = 4) (k : Nat) (v : Value) (w : World) (hv : IS w v (lowD (k : Int) N)) : Calls Try.prog 59 #[v] w (MakesC w N (phC2 (lowD (k : Int) N)) true) := by
  have h1 := signalOfPhases_any v (lowD (k : Int) N) w hv (by rw [lowD_length]; omega)
  rw [low_tf N h, lowD_length] at h1
  exact h1
theorem low_flat (N : Nat) (h : N = 1 ∨ N = 4) (k : Nat) (g B : Nat) (w : World) (hr : RowC w B g N (phC2 (lowD (k : Int) N))) :
    Calls Try.prog 62 #[.slice (some ⟨g, 0, none⟩) N N] w (Ret w (.bool (flB (lowD (k : Int) N)))) := by
  have h1 := isFlat_any (lowD (k : Int) N) (low_tf N h _) g B w (by rw [lowD_length]; exact hr)
  rw [lowD_length] at h1
  exact h1
set_option maxRecDepth 100000 in
set_option maxHeartbeats 2000000 in
theorem icf_1 (w : World) : Calls Try.prog 35 #[.int .i64 1] w (Ret w (.tuple #[.int .i64 (flC 1 4), .bool true])) := by
  have HW := Lib.hid (fun (k : Nat) (hk : k < 4) w' => low_iwith 1 (by omega) k (Nat.lt_of_lt_of_eq hk (by decide)) w')
  have HF := Lib.hid (fun (k : Nat) v w' (hv : IS w' v (lowD (k : Int) 1)) => low_signal 1 (by omega) k v w' hv)
  have HFF := Lib.hid (fun (k : Nat) g B w' hr => low_flat 1 (by omega) k g B w' hr)
  have HC := Lib.hid (fun k => flC_le 1 k)
  have HS := Lib.hid (show ∀ k : Nat, flC 1 (k + 1) = flC 1 k + (if flB (lowD (k : Int) 1) then 1 else 0) from fun _ => rfl)
  have H0 := Lib.hid (show flC 1 0 = 0 from rfl)
  obtain ⟨F, hF⟩ : ∃ F, F = flC 1 := ⟨_, rfl⟩
  rw [← hF] at HC HS H0 ⊢
  clear hF
  go_enter Try.func35, Try.ntmps35
  go_wp2_with fail
  go_loopw [19, 4] (fun i c wr => ∃ k : Nat, k ≤ 4 ∧ i = .int .i64 k ∧ c = .int .i64 (F k : Nat) ∧ Below w.heap.size w wr) (fun i _ _ => 4 - (intOf i).toNat)
  case atStart => exact ⟨0, Nat.zero_le _, rfl, by rw [H0.out]; rfl, Below.refl _ _⟩
  case round =>
    obtain ⟨k, hk, rfl, rfl, hbel⟩ := hrel
    have HB := Lib.hid hbel
    clear hbel
    by_cases hlt : k < 4
    · have h0 : (0 : Int) ≤ (k : Int) := by omega
      have h1 : (k : Int) < 4 := by omega
      have HWk := Lib.hid (HW.out k hlt)
      have HFk := Lib.hid (HF.out k)
      have HFFk := Lib.hid (HFF.out k)
      obtain ⟨PC, hPC⟩ : ∃ P, P = phC2 (lowD (k : Int) 1) := ⟨_, rfl⟩
      rw [← hPC] at HFk HFFk
      clear hPC
      have hs := HS.out k
      have hc := HC.out k
      obtain ⟨L, hL⟩ : ∃ L, L = lowD (k : Int) 1 := ⟨_, rfl⟩
      rw [← hL] at HWk HFk HFFk hs
      obtain ⟨c, hcd⟩ : ∃ c, c = F k := ⟨_, rfl⟩
      rw [← hcd] at hs hc
      rw [show F k = c from hcd.symm]
      clear hL hcd
      go_wp2_with fail
      refine (HWk.out _).mono ?_
      rintro e w2 ⟨v2, rfl, ho, hb⟩
      have HB2 := Lib.hid (joins HB.out hb)
      have HFv := Lib.hid (HFk.out v2 w2 ho.is)
      clear ho hb
      cases hf : flB L with
      | true =>
        rw [hf, if_pos rfl] at hs
        rw [hf] at HFFk
        have HSS := Lib.hid hs
        clear hs hf
        go_wp2_with fail
        refine (HFv.out).mono ?_
        rintro e w3 ⟨hb, ⟨_, g, rfl, hr⟩ | ⟨h, _⟩⟩
        case inr => cases h
        have HB25 := Lib.hid (joins HB2.out hb)
        have HFr := Lib.hid (HFFk.out g _ w3 hr)
        clear hb hr
        go_wp2_with fail
        refine (HFr.out).mono ?_
        rintro e w4 ⟨rfl, hb⟩
        have HB3 := Lib.hid (joins HB25.out hb)
        clear hb
        go_wp2_with fail
        go_roundw
        case rel => exact ⟨k + 1, by omega, by go_num, by rw [HSS.out]; go_num, HB3.out⟩
        case measure => simp [intOf]; omega
      | false =>
        rw [hf, if_neg Bool.false_ne_true] at hs
        rw [hf] at HFFk
        have HSS := Lib.hid hs
        clear hs hf
        go_wp2_with fail
        refine (HFv.out).mono ?_
        rintro e w3 ⟨hb, ⟨_, g, rfl, hr⟩ | ⟨h, _⟩⟩
        case inr => cases h
        have HB25 := Lib.hid (joins HB2.out hb)
        have HFr := Lib.hid (HFFk.out g _ w3 hr)
        clear hb hr
        go_wp2_with fail
        refine (HFr.out).mono ?_
        rintro e w4 ⟨rfl, hb⟩
        have HB3 := Lib.hid (joins HB25.out hb)
        clear hb
        go_wp2_with fail
        go_roundw
        case rel => exact ⟨k + 1, by omega, by go_num, by rw [HSS.out]; rfl, HB3.out⟩
        case measure => simp [intOf]; omega
    · obtain rfl : k = 4 := by omega
      go_wp2_with fail
      go_returns
      exact ⟨rfl, HB.out⟩
set_option maxRecDepth 100000 in
set_option maxHeartbeats 2000000 in
theorem icf_4 (w : World) : Calls Try.prog 35 #[.int .i64 4] w (Ret w (.tuple #[.int .i64 (flC 4 256), .bool true])) := by
  have HW := Lib.hid (fun (k : Nat) (hk : k < 256) w' => low_iwith 4 (by omega) k (Nat.lt_of_lt_of_eq hk (by decide)) w')
  have HF := Lib.hid (fun (k : Nat) v w' (hv : IS w' v (lowD (k : Int) 4)) => low_signal 4 (by omega) k v w' hv)
  have HFF := Lib.hid (fun (k : Nat) g B w' hr => low_flat 4 (by omega) k g B w' hr)
  have HC := Lib.hid (fun k => flC_le 4 k)
  have HS := Lib.hid (show ∀ k : Nat, flC 4 (k + 1) = flC 4 k + (if flB (lowD (k : Int) 4) then 1 else 0) from fun _ => rfl)
  have H0 := Lib.hid (show flC 4 0 = 0 from rfl)
  obtain ⟨F, hF⟩ : ∃ F, F = flC 4 := ⟨_, rfl⟩
  rw [← hF] at HC HS H0 ⊢
  clear hF
  go_enter Try.func35, Try.ntmps35
  go_wp2_with fail
  go_loopw [19, 4] (fun i c wr => ∃ k : Nat, k ≤ 256 ∧ i = .int .i64 k ∧ c = .int .i64 (F k : Nat) ∧ Below w.heap.size w wr) (fun i _ _ => 256 - (intOf i).toNat)
  case atStart => exact ⟨0, Nat.zero_le _, rfl, by rw [H0.out]; rfl, Below.refl _ _⟩
  case round =>
    obtain ⟨k, hk, rfl, rfl, hbel⟩ := hrel
    have HB := Lib.hid hbel
    clear hbel
    by_cases hlt : k < 256
    · have h0 : (0 : Int) ≤ (k : Int) := by omega
      have h1 : (k : Int) < 256 := by omega
      have HWk := Lib.hid (HW.out k hlt)
      have HFk := Lib.hid (HF.out k)
      have HFFk := Lib.hid (HFF.out k)
      obtain ⟨PC, hPC⟩ : ∃ P, P = phC2 (lowD (k : Int) 4) := ⟨_, rfl⟩
      rw [← hPC] at HFk HFFk
      clear hPC
      have hs := HS.out k
      have hc := HC.out k
      obtain ⟨L, hL⟩ : ∃ L, L = lowD (k : Int) 4 := ⟨_, rfl⟩
      rw [← hL] at HWk HFk HFFk hs
      obtain ⟨c, hcd⟩ : ∃ c, c = F k := ⟨_, rfl⟩
      rw [← hcd] at hs hc
      rw [show F k = c from hcd.symm]
      clear hL hcd
      go_wp2_with fail
      refine (HWk.out _).mono ?_
      rintro e w2 ⟨v2, rfl, ho, hb⟩
      have HB2 := Lib.hid (joins HB.out hb)
      have HFv := Lib.hid (HFk.out v2 w2 ho.is)
      clear ho hb
      cases hf : flB L with
      | true =>
        rw [hf, if_pos rfl] at hs
        rw [hf] at HFFk
        have HSS := Lib.hid hs
        clear hs hf
        go_wp2_with fail
        refine (HFv.out).mono ?_
        rintro e w3 ⟨hb, ⟨_, g, rfl, hr⟩ | ⟨h, _⟩⟩
        case inr => cases h
        have HB25 := Lib.hid (joins HB2.out hb)
        have HFr := Lib.hid (HFFk.out g _ w3 hr)
        clear hb hr
        go_wp2_with fail
        refine (HFr.out).mono ?_
        rintro e w4 ⟨rfl, hb⟩
        have HB3 := Lib.hid (joins HB25.out hb)
        clear hb
        go_wp2_with fail
        go_roundw
        case rel => exact ⟨k + 1, by omega, by go_num, by rw [HSS.out]; go_num, HB3.out⟩
        case measure => simp [intOf]; omega
      | false =>
        rw [hf, if_neg Bool.false_ne_true] at hs
        rw [hf] at HFFk
        have HSS := Lib.hid hs
        clear hs hf
        go_wp2_with fail
        refine (HFv.out).mono ?_
        rintro e w3 ⟨hb, ⟨_, g, rfl, hr⟩ | ⟨h, _⟩⟩
        case inr => cases h
        have HB25 := Lib.hid (joins HB2.out hb)
        have HFr := Lib.hid (HFFk.out g _ w3 hr)
        clear hb hr
        go_wp2_with fail
        refine (HFr.out).mono ?_
        rintro e w4 ⟨rfl, hb⟩
        have HB3 := Lib.hid (joins HB25.out hb)
        clear hb
        go_wp2_with fail
        go_roundw
        case rel => exact ⟨k + 1, by omega, by go_num, by rw [HSS.out]; rfl, HB3.out⟩
        case measure => simp [intOf]; omega
    · obtain rfl : k = 256 := by omega
      go_wp2_with fail
      go_returns
      exact ⟨rfl, HB.out⟩
theorem icountFlat (n : Int) (w : World) : Calls Try.prog 35 #[.int .i64 n] w (Ret w (.tuple #[.int .i64 (cfA n), .bool (cfOk n)])) := by
  by_cases h1 : n = 1
  · subst h1; exact icf_1 w
  · by_cases h4 : n = 4
    · subst h4; exact icf_4 w
    · have hno : cfOk n = false := decide_eq_false (by omega)
      have hz : cfA n = 0 := by unfold cfA; rw [if_neg h1, if_neg h4]
      rw [hno, hz]
      have e1 : (n == 1) = false := by simpa using h1
      have e4 : (n == 4) = false := by simpa using h4
      have f1 : (n != 1) = true := by simpa using h1
      have f4 : (n != 4) = true := by simpa using h4
      clear hno hz
      go_enter Try.func35, Try.ntmps35
      go_wp2_with fail
      go_returns
      exact ⟨rfl, Below.refl _ _⟩
end Go.Proofs.Ytgibdndckoapfaa
