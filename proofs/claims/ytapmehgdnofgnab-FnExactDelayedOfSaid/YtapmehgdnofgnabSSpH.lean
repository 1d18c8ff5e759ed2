/- The model's sdSignal, phNorm, l1Most, PeakOf. -/
import Derived.Test.YtapmehgdnofgnabSp
import Derived.Test.YtapmehgdnofgnabSTf
namespace Go.Proofs.Ytapmehgdnofgnab
set_option maxRecDepth 100000
open Go.RowKit

set_option maxRecDepth 100000 in
set_option maxHeartbeats 1000000 in
theorem phNormW_any (x y : Int) (hx : -32000000 ≤ x ∧ x ≤ 32000000) (hy : -32000000 ≤ y ∧ y ≤ 32000000) (w : World) : Calls Try.prog 71 #[.agg #[.int .i64 x, .int .i64 y]] w (Ret w (.int .i64 (norm x y))) := by
  have h1 := sq32 hx
  have h2 := sq32 hy
  obtain ⟨N, hN⟩ : ∃ N, N = norm x y := ⟨_, rfl⟩
  have hN2 : N = x * x + y * y := hN
  rw [← hN]
  obtain ⟨p, hp⟩ : ∃ p, p = x * x := ⟨_, rfl⟩
  obtain ⟨q, hq⟩ : ∃ p, p = y * y := ⟨_, rfl⟩
  rw [← hp] at h1 hN2
  rw [← hq] at h2 hN2
  have w1 : wrap64 (x * x) = p := by rw [← hp]; exact IntWalk.wrap64_in _ ⟨by omega, by omega⟩
  have w2 : wrap64 (y * y) = q := by rw [← hq]; exact IntWalk.wrap64_in _ ⟨by omega, by omega⟩
  have w3 : wrap64 (p + q) = N := by rw [hN2]; exact IntWalk.wrap64_in _ ⟨by omega, by omega⟩
  clear h1 h2 hN hN2 hp hq hx hy
  go_enter Try.func71, Try.ntmps71
  go_wp2
  go_returns
  exact ⟨ret_int w3, by go_grown⟩
set_option maxRecDepth 100000 in
set_option maxHeartbeats 1000000 in
theorem sdSignal_any (v : Value) (l : List (Int × Int)) (w : World) (hv : IG w v l) : Calls Try.prog 35 #[v] w (Ret w (.bool (hdOk l))) := by
  have HW := Lib.hid (tfWhole_any v l w hv)
  obtain ⟨a, cap, rfl⟩ := hv.slice
  have hd : hdOk l = (decide (l.length ≤ 64) && goodL l) := rfl
  obtain ⟨n, hn⟩ : ∃ n, n = l.length := ⟨_, rfl⟩
  rw [← hn] at HW hd ⊢
  by_cases h : n ≤ 64
  · have hi : ¬ (n : Int) > 64 := by omega
    rw [hd, decide_eq_true h, Bool.true_and]
    cases hg : goodL l with
    | true =>
      rw [hg, if_pos rfl] at HW
      clear hv hd hg h hn
      go_enter Try.func35, Try.ntmps35
      go_wp2_with fail
      refine (HW.out).mono ?_
      rintro e w1 ⟨rfl, hb⟩
      go_wp2_with fail
      go_returns
      exact ⟨rfl, hb⟩
    | false =>
      rw [hg, if_neg Bool.false_ne_true] at HW
      clear hv hd hg h hn
      go_enter Try.func35, Try.ntmps35
      go_wp2_with fail
      refine (HW.out).mono ?_
      rintro e w1 ⟨rfl, hb⟩
      go_wp2_with fail
      go_returns
      exact ⟨rfl, hb⟩
  · have hi : (n : Int) > 64 := by omega
    rw [hd, decide_eq_false h, Bool.false_and]
    clear hv hd h hn HW
    go_enter Try.func35, Try.ntmps35
    go_wp2_with fail
    go_returns
    exact ⟨rfl, by go_grown⟩
end Go.Proofs.Ytapmehgdnofgnab
