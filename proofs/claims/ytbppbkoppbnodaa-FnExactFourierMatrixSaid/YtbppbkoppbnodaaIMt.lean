/- The program's TurnedOver, ConjugateMatrix. -/
import Derived.Test.YtbppbkoppbnodaaILs
import Derived.Test.YtbppbkoppbnodaaIMf
import Derived.Test.YtbppbkoppbnodaaSMaC
import Derived.Test.YtbppbkoppbnodaaMaT
namespace Go.Proofs.Ytbppbkoppbnodaa
set_option maxRecDepth 100000
open Go.RowKit

theorem mf_ok (m : List (List Int)) : decide (1 ≤ mfN m) = maOk m := by
  unfold mfN
  cases h : maOk m with
  | true => exact decide_eq_true (maOk_parts h).1.1
  | false => rfl
theorem mf_gen (m : List (List Int)) (R : Nat → List Int) : genR (mfN m) R = if maOk m then genR m.length R else [] := by
  unfold mfN
  cases h : maOk m with
  | true => rfl
  | false => rfl
theorem mf_yes {m : List (List Int)} (h : maOk m = true) : mfN m = m.length := by unfold mfN; rw [h]; rfl
set_option maxHeartbeats 1000000 in
theorem iturnedOver (v : Value) (m : List (List Int)) (w : World) (hv : IR w v m) (hl : sz2 m ≤ 1048576) : Calls Try.prog 21 #[v] w (MakesRB w (ovA m) (maOk m)) := by
  have HM := Lib.hid (fun w' (h : Below w.heap.size w w') => matrixFrom_any v m w' (hv.below h) hl)
  have hR := mf_MxR m
  have HT := Lib.hid (turnedOver_any (mfV m) (mfN m) hR.1)
  have hS : MxR (sqV (mfN m) (fun c => mfV m (c % 8 * 8 + c / 8)) V0) (mfN m) (fun i j => atM m j i) := sq_MxR hR.1 (fun i j hi hj => by
    have := hR.1
    rw [show (i * 8 + j) % 8 = j by omega, show (i * 8 + j) / 8 = i by omega]
    exact hR.2.1 j i hj hi)
  have hLs := lists_any _ _ _ hS
  have e : genR (mfN m) (fun i => gen (mfN m) (fun j => atM m j i)) = ovA m := by
    rw [mf_gen]
    unfold ovA
    cases h : maOk m with
    | true => rw [if_pos rfl, if_pos rfl, mf_yes h]; rfl
    | false => rfl
  rw [e, mf_ok] at hLs
  have HLS := Lib.hid hLs
  obtain ⟨C, hC⟩ : ∃ C, C = mxC (mfV m) (mfN m) := ⟨_, rfl⟩
  obtain ⟨D, hD⟩ : ∃ C, C = mxC (sqV (mfN m) (fun c => mfV m (c % 8 * 8 + c / 8)) V0) (mfN m) := ⟨_, rfl⟩
  rw [← hC] at HM HT
  rw [← hD] at HT HLS
  obtain ⟨pa, cap, rfl⟩ := hv.slice
  clear hv hR hS hLs e hC hD
  have B0 := Lib.hid (Below.refl w.heap.size w)
  go_enter Try.func21, Try.ntmps21
  go_wp2_with fail
  refine (HM.out _ B0.out).mono ?_
  rintro e w1 ⟨rfl, hb⟩
  have B1 := Lib.hid (joins B0.out hb)
  clear hb
  go_wp2_with fail
  refine (HT.out _).mono ?_
  rintro e w2 ⟨rfl, hb⟩
  have B2 := Lib.hid (joins B1.out hb)
  clear hb
  go_wp2_with fail
  refine (HLS.out _).mono ?_
  rintro e w3 ⟨vr, rfl, ho, hb⟩
  have B3 := Lib.hid (joins B2.out hb)
  have OR := Lib.hid (ho.mono B2.out.size)
  clear hb ho
  go_wp2_with fail
  go_returns
  exact ⟨_, rfl, OR.out, B3.out⟩
set_option maxHeartbeats 1000000 in
theorem iconjugateMatrix (v : Value) (m : List (List Int)) (w : World) (hv : IR w v m) (hl : sz2 m ≤ 1048576) : Calls Try.prog 23 #[v] w (MakesRB w (cjA m) (maOk m)) := by
  have HM := Lib.hid (fun w' (h : Below w.heap.size w w') => matrixFrom_any v m w' (hv.below h) hl)
  have hR := mf_MxR m
  have HT := Lib.hid (conjugateM_any (mfV m) (mfN m) hR.1)
  have hS : MxR (sqV (mfN m) (fun c => cj (mfV m c)) (mfV m)) (mfN m) (fun i j => (-(atM m i j)) % 4) := sq_MxR_same hR (fun i j hi hj => isV_cj (hR.2.1 i j hi hj))
  have hLs := lists_any _ _ _ hS
  have e : genR (mfN m) (fun i => gen (mfN m) (fun j => (-(atM m i j)) % 4)) = cjA m := by
    rw [mf_gen]
    unfold cjA
    cases h : maOk m with
    | true =>
      rw [if_pos rfl, if_pos rfl, mf_yes h]
      refine genR_ext (fun i hi => ?_)
      unfold barG
      rw [maOk_sq h i hi]
      rfl
    | false => rfl
  rw [e, mf_ok] at hLs
  have HLS := Lib.hid hLs
  obtain ⟨C, hC⟩ : ∃ C, C = mxC (mfV m) (mfN m) := ⟨_, rfl⟩
  obtain ⟨D, hD⟩ : ∃ C, C = mxC (sqV (mfN m) (fun c => cj (mfV m c)) (mfV m)) (mfN m) := ⟨_, rfl⟩
  rw [← hC] at HM HT
  rw [← hD] at HT HLS
  obtain ⟨pa, cap, rfl⟩ := hv.slice
  clear hv hR hS hLs e hC hD
  have B0 := Lib.hid (Below.refl w.heap.size w)
  go_enter Try.func23, Try.ntmps23
  go_wp2_with fail
  refine (HM.out _ B0.out).mono ?_
  rintro e w1 ⟨rfl, hb⟩
  have B1 := Lib.hid (joins B0.out hb)
  clear hb
  go_wp2_with fail
  refine (HT.out _).mono ?_
  rintro e w2 ⟨rfl, hb⟩
  have B2 := Lib.hid (joins B1.out hb)
  clear hb
  go_wp2_with fail
  refine (HLS.out _).mono ?_
  rintro e w3 ⟨vr, rfl, ho, hb⟩
  have B3 := Lib.hid (joins B2.out hb)
  have OR := Lib.hid (ho.mono B2.out.size)
  clear hb ho
  go_wp2_with fail
  go_returns
  exact ⟨_, rfl, OR.out, B3.out⟩
end Go.Proofs.Ytbppbkoppbnodaa
