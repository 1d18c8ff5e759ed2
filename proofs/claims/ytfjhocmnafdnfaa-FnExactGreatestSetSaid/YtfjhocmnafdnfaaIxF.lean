/- slices.IndexFunc and slices.ContainsFunc of isUndisturbed's closure. -/
import Derived.Test.YtfjhocmnafdnfaaPhs
import Derived.Test.YtfjhocmnafdnfaaSCr
namespace Go.Proofs.Ytfjhocmnafdnfaa
set_option maxRecDepth 100000
open Go.RowKit

set_option maxRecDepth 100000 in
set_option maxHeartbeats 2000000 in
theorem indexFunc_any (g : Int → Bool) (p1 p2 : Addr) (l : List Int) (v : Value) (w : World) (hl : l.length ≤ 1048576) (hv : IS w v l)
    (HF0 : ∀ (i : Nat) (w' : World), i < l.length → Below w.heap.size w w' → Calls Try.prog 197 #[.int .i64 (l.getD i 0), .pointer (some p1), .pointer (some p2)] w' (Ret w' (.bool (g (l.getD i 0))))) :
    Calls Try.prog 200 #[v, .func (.func 197) #[] #[.pointer (some p1), .pointer (some p2)]] w (fun e w' => ∃ k : Int, e = .returned (.int .i64 k) ∧ decide (0 ≤ k) = l.any g ∧ Below w.heap.size w w') := by
  have HF := Lib.hid HF0
  obtain ⟨a, cap, rfl⟩ := hv.slice
  have HV := Lib.hid hv
  obtain ⟨n, hn⟩ : ∃ n, n = l.length := ⟨_, rfl⟩
  rw [← hn] at hl HF ⊢
  have HN := Lib.hid hn
  clear HF0 hv hn
  go_enter Try.func200, Try.ntmps200
  go_wp2_with fail
  go_loopw [8] (fun q wr => ∃ k : Nat, k ≤ n ∧ q = .int .i64 k ∧ (l.take k).any g = false ∧ Below w.heap.size w wr) (fun q _ => n - (intOf q).toNat)
  case atStart => exact ⟨0, Nat.zero_le _, rfl, by simp, Below.refl _ _⟩
  case round =>
    obtain ⟨k, hk, rfl, hno, hbel⟩ := hrel
    have HB := Lib.hid hbel
    have HNO := Lib.hid hno
    clear hbel hno
    by_cases hlt : k < n
    · have h0 : (0 : Int) ≤ (k : Int) := by omega
      have h1 : (k : Int) < (n : Int) := by omega
      have hlk : k < l.length := by rw [← HN.out]; exact hlt
      obtain ⟨b, off, rfl, hc⟩ := IS.cellsAt (a := a) (cap := cap) (l := l) HV.out (by omega)
      have c1 := keepc HB.out (hc k hlk)
      have HFK := Lib.hid (HF.out k wr hlt HB.out)
      have HTK := Lib.hid (show (l.take (k + 1)).any g = ((l.take k).any g || g (l.getD k 0)) from by
        rw [List.take_succ_eq_append_getElem hlk, List.any_append]
        simp [List.getD, hlk])
      have HMEM := Lib.hid (show g (l.getD k 0) = true → l.any g = true from fun h => List.any_eq_true.2 ⟨l[k], List.getElem_mem hlk, by simpa [List.getD, hlk] using h⟩)
      obtain ⟨x, hx⟩ : ∃ x, x = l.getD k 0 := ⟨_, rfl⟩
      rw [← hx] at c1 HFK HTK HMEM
      clear hx hc hlk
      go_wp2_with fail
      refine (HFK.out).mono ?_
      rintro e w1 ⟨rfl, hb1⟩
      have HB1 := Lib.hid (joins HB.out hb1)
      clear hb1
      cases hg : g x with
      | true =>
        have HM := Lib.hid (HMEM.out hg)
        clear hg
        go_wp2_with fail
        go_returns
        exact ⟨(k : Int), rfl, by rw [HM.out]; exact decide_eq_true h0, HB1.out⟩
      | false =>
        have HT := Lib.hid (show (l.take (k + 1)).any g = false from by rw [HTK.out, HNO.out, hg]; rfl)
        clear hg
        go_wp2_with fail
        go_roundw
        case rel => exact ⟨k + 1, by omega, by go_num, HT.out, HB1.out⟩
        case measure => simp [intOf]; omega
    · have hh := HNO.out
      rw [List.take_of_length_le (by rw [← HN.out]; omega)] at hh
      have HH := Lib.hid hh
      clear hh
      go_wp2_with fail
      go_returns
      exact ⟨-1, rfl, by rw [HH.out]; rfl, HB.out⟩
set_option maxHeartbeats 1000000 in
theorem containsFunc_any (g : Int → Bool) (p1 p2 : Addr) (l : List Int) (v : Value) (w : World) (hl : l.length ≤ 1048576) (hv : IS w v l)
    (HF0 : ∀ (i : Nat) (w' : World), i < l.length → Below w.heap.size w w' → Calls Try.prog 197 #[.int .i64 (l.getD i 0), .pointer (some p1), .pointer (some p2)] w' (Ret w' (.bool (g (l.getD i 0))))) :
    Calls Try.prog 196 #[v, .func (.func 197) #[] #[.pointer (some p1), .pointer (some p2)]] w (Ret w (.bool (l.any g))) := by
  have HI := Lib.hid (indexFunc_any g p1 p2 l v w hl hv HF0)
  obtain ⟨a, cap, rfl⟩ := hv.slice
  clear hv HF0
  go_enter Try.func196, Try.ntmps196
  go_wp2_with fail
  refine (HI.out).mono ?_
  rintro e w1 ⟨k, rfl, hk, hb⟩
  have HK := Lib.hid hk
  have HB := Lib.hid hb
  clear hk hb
  go_wp2_with fail
  go_returns
  exact ⟨ret_bool (by rw [← HK.out]), HB.out⟩
end Go.Proofs.Ytfjhocmnafdnfaa
