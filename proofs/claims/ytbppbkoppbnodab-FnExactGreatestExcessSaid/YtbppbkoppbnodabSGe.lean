/- The model's haColumns, GreatestExcess. -/
import Derived.Test.YtbppbkoppbnodabSMaO
import Derived.Test.YtbppbkoppbnodabSMaT
import Derived.Test.YtbppbkoppbnodabSPhS
import Derived.Test.YtbppbkoppbnodabSEn
import Derived.Test.YtbppbkoppbnodabGeM
import Derived.Test.YtbppbkoppbnodabRwC
namespace Go.Proofs.Ytbppbkoppbnodab
set_option maxRecDepth 100000
open Go.RowKit

theorem wrap_small (z : Int) (h : -1000000 ≤ z ∧ z ≤ 1000000) : wrap64 z = z := IntWalk.wrap64_in z ⟨by omega, by omega⟩
theorem wrapI_small (z : Int) (h : -1000000 ≤ z ∧ z ≤ 1000000) : IntKind.i64.wrap z = z := IntWalk.i64_in z ⟨by omega, by omega⟩
set_option maxHeartbeats 400000 in
theorem l1Abs_val (n : Int) (h1 : -1000000 ≤ n) (h2 : n ≤ 1000000) (w : World) : Calls Try.prog 72 #[.int .i64 n] w (Pure w (.int .i64 (n.natAbs : Int))) := by
  rcases (show n < 0 ∨ n = 0 ∨ 0 < n by omega) with h | rfl | h
  · have e : (n.natAbs : Int) = -n := by omega
    rw [e]
    clear e
    have h3 : ¬ n > -n := by omega
    have h4 : n ≤ -n := by omega
    go_enter Try.func72, Try.ntmps72
    go_wp2
    go_returns
    exact ⟨rfl, rfl⟩
  · go_enter Try.func72, Try.ntmps72
    go_wp2
    go_returns
    exact ⟨rfl, rfl⟩
  · have e : (n.natAbs : Int) = n := by omega
    rw [e]
    clear e
    have h3 : n > -n := by omega
    have h4 : -n < n := by omega
    go_enter Try.func72, Try.ntmps72
    go_wp2
    go_returns
    exact ⟨rfl, rfl⟩
theorem sumF_col (f : Int → Int) (m : List (List Int)) (hm : maOk m = true) (j : Nat) (hj : j < m.length) : sumF f ((ovL m).getD j []) = geI f (atM m) (fun _ => 0) j m.length := by
  unfold ovL
  rw [genR_getD _ _ _ hj, sumF_gen]
  unfold geI
  refine sumN_ext _ _ _ (fun i hi => ?_)
  have := maOk_ph hm i j hi hj
  rw [show (atM m i j + 0) % 4 = atM m i j by omega]
set_option maxRecDepth 100000 in
set_option maxHeartbeats 2000000 in
theorem haColumns_any (v : Value) (m : List (List Int)) (w : World) (hv : IR w v m) (hm : maOk m = true) : Calls Try.prog 54 #[v] w (Ret w (.int .i64 (geS (atM m) m.length (fun _ => 0)))) := by
  obtain ⟨a, cap, rfl⟩ := hv.slice
  have h8 := maOk_le hm
  have HO := Lib.hid (haOver_any _ m w hv (maOk_sq hm) h8)
  have HSQ := Lib.hid (fun j (hj : j < m.length) => maOk_seq (maOk_ov hm) j (by rw [ovL_length]; exact hj))
  have HCX := Lib.hid (fun j (hj : j < m.length) => sumF_col vx m hm j hj)
  have HCY := Lib.hid (fun j (hj : j < m.length) => sumF_col vy m hm j hj)
  have HXI := Lib.hid (fun j => geI_small vx vx_one (atM m) (fun _ => 0) j m.length)
  have HYI := Lib.hid (fun j => geI_small vy vy_one (atM m) (fun _ => 0) j m.length)
  have HS := Lib.hid (fun k => geS_small (atM m) m.length h8 (fun _ => 0) k)
  obtain ⟨C, hC⟩ : ∃ C : Nat → Int, C = geC (atM m) m.length (fun _ => 0) := ⟨_, rfl⟩
  have HCC := Lib.hid (fun j => show C j = ((geI vx (atM m) (fun _ => 0) j m.length).natAbs : Int) + ((geI vy (atM m) (fun _ => 0) j m.length).natAbs : Int) by rw [hC]; rfl)
  unfold geS
  rw [← hC] at HS ⊢
  have HSS := Lib.hid (fun k => show sumN C (k + 1) = sumN C k + C k from rfl)
  obtain ⟨S, hS⟩ : ∃ S, S = sumN C := ⟨_, rfl⟩
  rw [← hS] at HS HSS ⊢
  have HS0 := Lib.hid (show S 0 = 0 by rw [hS]; rfl)
  have HOL := Lib.hid (ovL_length m)
  obtain ⟨n, hn⟩ : ∃ n, n = m.length := ⟨_, rfl⟩
  obtain ⟨O, hO⟩ : ∃ O, O = ovL m := ⟨_, rfl⟩
  rw [← hn] at h8 HSQ HCX HCY HXI HYI HCC HO HOL ⊢
  rw [← hO] at HO HSQ HCX HCY HOL
  clear hv hm hC hS hn hO
  have B0 := Lib.hid (Below.refl w.heap.size w)
  go_enter Try.func54, Try.ntmps54
  go_wp2_with fail
  refine (HO.out).mono ?_
  rintro e w1 ⟨v1, rfl, ho1, hb1⟩
  have HR := Lib.hid ho1.is
  obtain ⟨oa, oc, hoe⟩ := ho1.is.slice
  subst hoe
  rw [HOL.out] at HR
  have B1 := Lib.hid (joins B0.out hb1)
  clear ho1 hb1
  rw [HOL.out]
  go_wp2_with fail
  go_loopw [10, 3] (fun q s wr => ∃ a : Nat, a ≤ n ∧ q = .int .i64 a ∧ s = .int .i64 (S a) ∧ Below w1.heap.size w1 wr) (fun q _ _ => n - (intOf q).toNat)
  case atStart => exact ⟨0, Nat.zero_le _, rfl, by rw [HS0.out], Below.refl _ _⟩
  case round =>
    obtain ⟨a, ha, rfl, rfl, hbel⟩ := hrel
    have BR := Lib.hid hbel
    clear hbel
    by_cases hlt : a < n
    · have h0 : (0 : Int) ≤ (a : Int) := by omega
      have h1 : (a : Int) < (n : Int) := by omega
      obtain ⟨-, b, off, u, rfl, cr, hu⟩ := (HR.out.below BR.out).at a (by rw [HOL.out]; exact hlt)
      have HPS := Lib.hid (phSum_any u _ _ hu (HSQ.out a hlt))
      rw [HCX.out a hlt, HCY.out a hlt] at HPS
      have b1 := HXI.out a
      have b2 := HYI.out a
      have hcc := HCC.out a
      have hss := HSS.out a
      have hs := HS.out a
      obtain ⟨X, hX⟩ : ∃ X, X = geI vx (atM m) (fun _ => 0) a n := ⟨_, rfl⟩
      obtain ⟨Y, hY⟩ : ∃ X, X = geI vy (atM m) (fun _ => 0) a n := ⟨_, rfl⟩
      rw [← hX] at HPS b1 hcc
      rw [← hY] at HPS b2 hcc
      have HAX := Lib.hid (l1Abs_val X (by omega) (by omega))
      have HAY := Lib.hid (l1Abs_val Y (by omega) (by omega))
      obtain ⟨x, hx⟩ : ∃ x, x = X.natAbs := ⟨_, rfl⟩
      obtain ⟨y, hy⟩ : ∃ x, x = Y.natAbs := ⟨_, rfl⟩
      have hx8 : x ≤ 8 := by omega
      have hy8 : y ≤ 8 := by omega
      rw [← hx] at HAX hcc
      rw [← hy] at HAY hcc
      obtain ⟨s, hs'⟩ : ∃ s, s = S a := ⟨_, rfl⟩
      rw [← hs'] at hss hs ⊢
      rw [hcc] at hss
      have HSS' := Lib.hid hss
      obtain ⟨hs1, hs2⟩ := hs
      have hs3 : s ≤ 8 * 16 := by omega
      obtain ⟨ua, uc, rfl⟩ := hu.sl
      clear b1 b2 hcc hss hs2 hX hY hx hy hs' hu
      have hw1 : wrap64 ((x : Int) + (y : Int)) = (x : Int) + (y : Int) := wrap_small _ (by omega)
      have hw2 : wrap64 (s + ((x : Int) + (y : Int))) = s + ((x : Int) + (y : Int)) := wrap_small _ (by omega)
      go_wp2_with fail
      refine (HPS.out).mono ?_
      rintro e w2 ⟨rfl, hb2⟩
      have B2 := Lib.hid (joins BR.out hb2)
      clear hb2
      go_wp2_with fail
      go_region_with (first
        | (go_at_call 72; (with_reducible refine (HAX.out _).mono ?_); rintro e w' ⟨rfl, rfl⟩)
        | (go_at_call 72; (with_reducible refine (HAY.out _).mono ?_); rintro e w' ⟨rfl, rfl⟩))
      all_goals
        go_wp2_with fail
        go_roundw
        case rel => exact ⟨a + 1, by omega, by go_num, by rw [HSS'.out], belowN (belowa B2.out _) 1⟩
        case measure => simp [intOf]; omega
    · obtain rfl : n = a := by omega
      go_wp2_with fail
      go_returns
      exact ⟨rfl, joins B1.out BR.out⟩
end Go.Proofs.Ytbppbkoppbnodab
