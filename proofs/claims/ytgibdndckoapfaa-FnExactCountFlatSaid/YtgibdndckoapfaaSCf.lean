/- The model's CountFlat. -/
import Derived.Test.YtgibdndckoapfaaSQs
import Derived.Test.YtgibdndckoapfaaCfM
import Derived.Test.YtgibdndckoapfaaWith
namespace Go.Proofs.Ytgibdndckoapfaa
set_option maxRecDepth 100000
open Go.RowKit

set_option maxRecDepth 100000 in
set_option maxHeartbeats 2000000 in
theorem scf_1 (w : World) : Calls Try.prog 34 #[.int .i64 1] w (Ret w (.tuple #[.int .i64 (flC 1 4), .bool true])) := by
  have HW := Lib.hid (fun (k : Nat) (hk : k < 4) w' => phWith_any 1 (by omega) (k : Int) (by omega) (by omega) w')
  have HF := Lib.hid (fun (k : Nat) v w' (hv : IS w' v (lowD (k : Int) 1)) => tfFlat_any v (lowD (k : Int) 1) w' hv (low_tf 1 (by omega) _))
  have HC := Lib.hid (fun k => flC_le 1 k)
  have HS := Lib.hid (show ∀ k : Nat, flC 1 (k + 1) = flC 1 k + (if flB (lowD (k : Int) 1) then 1 else 0) from fun _ => rfl)
  have H0 := Lib.hid (show flC 1 0 = 0 from rfl)
  obtain ⟨F, hF⟩ : ∃ F, F = flC 1 := ⟨_, rfl⟩
  rw [← hF] at HC HS H0 ⊢
  clear hF
  go_enter Try.func34, Try.ntmps34
  go_wp2_with fail
  go_loopw [5, 4] (fun i c wr => ∃ k : Nat, k ≤ 4 ∧ i = .int .i64 k ∧ c = .int .i64 (F k : Nat) ∧ Below w.heap.size w wr) (fun i _ _ => 4 - (intOf i).toNat)
  case atStart => exact ⟨0, Nat.zero_le _, rfl, by rw [H0.out]; rfl, Below.refl _ _⟩
  case round =>
    obtain ⟨k, hk, rfl, rfl, hbel⟩ := hrel
    have HB := Lib.hid hbel
    clear hbel
    by_cases hlt : k < 4
    · have h0 : (0 : Int) ≤ (k : Int) := by omega
      have h1 : (k : Int) < 4 := by omega
      have HWk := Lib.hid (HW.out k hlt)
      have HFk := Lib.hid (HF.out k)
      have hs := HS.out k
      have hc := HC.out k
      obtain ⟨L, hL⟩ : ∃ L, L = lowD (k : Int) 1 := ⟨_, rfl⟩
      rw [← hL] at HWk HFk hs
      obtain ⟨c, hcd⟩ : ∃ c, c = F k := ⟨_, rfl⟩
      rw [← hcd] at hs hc
      rw [show F k = c from hcd.symm]
      clear hL hcd
      go_wp2_with fail
      refine (HWk.out _).mono ?_
      rintro e w2 ⟨v2, rfl, ho, hb⟩
      have HB2 := Lib.hid (joins HB.out hb)
      have HFv := Lib.hid (HFk.out v2 w2 ho.is)
      clear ho hb
      cases hf : flB L with
      | true =>
        rw [hf, if_pos rfl] at hs
        rw [hf] at HFv
        have HSS := Lib.hid hs
        clear hs hf
        go_wp2_with fail
        refine (HFv.out).mono ?_
        rintro e w3 ⟨rfl, hb⟩
        have HB3 := Lib.hid (joins HB2.out hb)
        clear hb
        go_wp2_with fail
        go_roundw
        case rel => exact ⟨k + 1, by omega, by go_num, by rw [HSS.out]; go_num, HB3.out⟩
        case measure => simp [intOf]; omega
      | false =>
        rw [hf, if_neg Bool.false_ne_true] at hs
        rw [hf] at HFv
        have HSS := Lib.hid hs
        clear hs hf
        go_wp2_with fail
        refine (HFv.out).mono ?_
        rintro e w3 ⟨rfl, hb⟩
        have HB3 := Lib.hid (joins HB2.out hb)
        clear hb
        go_wp2_with fail
        go_roundw
        case rel => exact ⟨k + 1, by omega, by go_num, by rw [HSS.out]; rfl, HB3.out⟩
        case measure => simp [intOf]; omega
    · obtain rfl : k = 4 := by omega
      go_wp2_with fail
      go_returns
      exact ⟨rfl, HB.out⟩
set_option maxRecDepth 100000 in
set_option maxHeartbeats 2000000 in
theorem scf_4 (w : World) : Calls Try.prog 34 #[.int .i64 4] w (Ret w (.tuple #[.int .i64 (flC 4 256), .bool true])) := by
  have HW := Lib.hid (fun (k : Nat) (hk : k < 256) w' => phWith_any 4 (by omega) (k : Int) (by omega) (by omega) w')
  have HF := Lib.hid (fun (k : Nat) v w' (hv : IS w' v (lowD (k : Int) 4)) => tfFlat_any v (lowD (k : Int) 4) w' hv (low_tf 4 (by omega) _))
  have HC := Lib.hid (fun k => flC_le 4 k)
  have HS := Lib.hid (show ∀ k : Nat, flC 4 (k + 1) = flC 4 k + (if flB (lowD (k : Int) 4) then 1 else 0) from fun _ => rfl)
  have H0 := Lib.hid (show flC 4 0 = 0 from rfl)
  obtain ⟨F, hF⟩ : ∃ F, F = flC 4 := ⟨_, rfl⟩
  rw [← hF] at HC HS H0 ⊢
  clear hF
  go_enter Try.func34, Try.ntmps34
  go_wp2_with fail
  go_loopw [5, 4] (fun i c wr => ∃ k : Nat, k ≤ 256 ∧ i = .int .i64 k ∧ c = .int .i64 (F k : Nat) ∧ Below w.heap.size w wr) (fun i _ _ => 256 - (intOf i).toNat)
  case atStart => exact ⟨0, Nat.zero_le _, rfl, by rw [H0.out]; rfl, Below.refl _ _⟩
  case round =>
    obtain ⟨k, hk, rfl, rfl, hbel⟩ := hrel
    have HB := Lib.hid hbel
    clear hbel
    by_cases hlt : k < 256
    · have h0 : (0 : Int) ≤ (k : Int) := by omega
      have h1 : (k : Int) < 256 := by omega
      have HWk := Lib.hid (HW.out k hlt)
      have HFk := Lib.hid (HF.out k)
      have hs := HS.out k
      have hc := HC.out k
      obtain ⟨L, hL⟩ : ∃ L, L = lowD (k : Int) 4 := ⟨_, rfl⟩
      rw [← hL] at HWk HFk hs
      obtain ⟨c, hcd⟩ : ∃ c, c = F k := ⟨_, rfl⟩
      rw [← hcd] at hs hc
      rw [show F k = c from hcd.symm]
      clear hL hcd
      go_wp2_with fail
      refine (HWk.out _).mono ?_
      rintro e w2 ⟨v2, rfl, ho, hb⟩
      have HB2 := Lib.hid (joins HB.out hb)
      have HFv := Lib.hid (HFk.out v2 w2 ho.is)
      clear ho hb
      cases hf : flB L with
      | true =>
        rw [hf, if_pos rfl] at hs
        rw [hf] at HFv
        have HSS := Lib.hid hs
        clear hs hf
        go_wp2_with fail
        refine (HFv.out).mono ?_
        rintro e w3 ⟨rfl, hb⟩
        have HB3 := Lib.hid (joins HB2.out hb)
        clear hb
        go_wp2_with fail
        go_roundw
        case rel => exact ⟨k + 1, by omega, by go_num, by rw [HSS.out]; go_num, HB3.out⟩
        case measure => simp [intOf]; omega
      | false =>
        rw [hf, if_neg Bool.false_ne_true] at hs
        rw [hf] at HFv
        have HSS := Lib.hid hs
        clear hs hf
        go_wp2_with fail
        refine (HFv.out).mono ?_
        rintro e w3 ⟨rfl, hb⟩
        have HB3 := Lib.hid (joins HB2.out hb)
        clear hb
        go_wp2_with fail
        go_roundw
        case rel => exact ⟨k + 1, by omega, by go_num, by rw [HSS.out]; rfl, HB3.out⟩
        case measure => simp [intOf]; omega
    · obtain rfl : k = 256 := by omega
      go_wp2_with fail
      go_returns
      exact ⟨rfl, HB.out⟩
theorem scountFlat (n : Int) (w : World) : Calls Try.prog 34 #[.int .i64 n] w (Ret w (.tuple #[.int .i64 (cfA n), .bool (cfOk n)])) := by
  by_cases h1 : n = 1
  · subst h1; exact scf_1 w
  · by_cases h4 : n = 4
    · subst h4; exact scf_4 w
    · have hno : cfOk n = false := decide_eq_false (by omega)
      have hz : cfA n = 0 := by unfold cfA; rw [if_neg h1, if_neg h4]
      rw [hno, hz]
      have e1 : (n == 1) = false := by simpa using h1
      have e4 : (n == 4) = false := by simpa using h4
      have f1 : (n != 1) = true := by simpa using h1
      have f4 : (n != 4) = true := by simpa using h4
      clear hno hz
      go_enter Try.func34, Try.ntmps34
      go_wp2_with fail
      go_returns
      exact ⟨rfl, Below.refl _ _⟩
end Go.Proofs.Ytgibdndckoapfaa
