/- The model's sdSignal, phNorm, l1Most, PeakOf. -/
import Derived.Test.YtapmehgdnofgnaaSp
import Derived.Test.YtapmehgdnofgnaaSTf
namespace Go.Proofs.Ytapmehgdnofgnaa
set_option maxRecDepth 100000
open Go.RowKit

set_option maxRecDepth 100000 in
set_option maxHeartbeats 1000000 in
theorem phNormW_any (x y : Int) (hx : -32000000 ≤ x ∧ x ≤ 32000000) (hy : -32000000 ≤ y ∧ y ≤ 32000000) (w : World) : Calls Try.prog 42 #[.agg #[.int .i64 x, .int .i64 y]] w (Ret w (.int .i64 (norm x y))) := by
  have h1 := sq32 hx
  have h2 := sq32 hy
  obtain ⟨N, hN⟩ : ∃ N, N = norm x y := ⟨_, rfl⟩
  have hN2 : N = x * x + y * y := hN
  rw [← hN]
  obtain ⟨p, hp⟩ : ∃ p, p = x * x := ⟨_, rfl⟩
  obtain ⟨q, hq⟩ : ∃ p, p = y * y := ⟨_, rfl⟩
  rw [← hp] at h1 hN2
  rw [← hq] at h2 hN2
  have w1 : wrap64 (x * x) = p := by rw [← hp]; exact IntWalk.wrap64_in _ ⟨by omega, by omega⟩
  have w2 : wrap64 (y * y) = q := by rw [← hq]; exact IntWalk.wrap64_in _ ⟨by omega, by omega⟩
  have w3 : wrap64 (p + q) = N := by rw [hN2]; exact IntWalk.wrap64_in _ ⟨by omega, by omega⟩
  clear h1 h2 hN hN2 hp hq hx hy
  go_enter Try.func42, Try.ntmps42
  go_wp2
  go_returns
  exact ⟨ret_int w3, by go_grown⟩
set_option maxHeartbeats 400000 in
theorem l1MostW_any (a b : Int) (w : World) : Calls Try.prog 59 #[.int .i64 a, .int .i64 b] w (Pure w (.int .i64 (if b > a then b else a))) := by
  by_cases h : b > a
  · rw [if_pos h]
    have h2 : ¬ b < a := by omega
    have h3 : ¬ a > b := by omega
    go_enter Try.func59, Try.ntmps59
    go_wp2
    go_returns
    exact ⟨rfl, rfl⟩
  · rw [if_neg h]
    rcases (show a > b ∨ a = b by omega) with h2 | rfl
    · go_enter Try.func59, Try.ntmps59
      go_wp2
      go_returns
      exact ⟨rfl, rfl⟩
    · go_enter Try.func59, Try.ntmps59
      go_wp2
      go_returns
      exact ⟨rfl, rfl⟩
set_option maxRecDepth 100000 in
set_option maxHeartbeats 1000000 in
theorem sdSignal_any (v : Value) (l : List (Int × Int)) (w : World) (hv : IG w v l) : Calls Try.prog 58 #[v] w (Ret w (.bool (hdOk l))) := by
  have HW := Lib.hid (tfWhole_any v l w hv)
  obtain ⟨a, cap, rfl⟩ := hv.slice
  have hd : hdOk l = (decide (l.length ≤ 64) && goodL l) := rfl
  obtain ⟨n, hn⟩ : ∃ n, n = l.length := ⟨_, rfl⟩
  rw [← hn] at HW hd ⊢
  by_cases h : n ≤ 64
  · have hi : ¬ (n : Int) > 64 := by omega
    rw [hd, decide_eq_true h, Bool.true_and]
    cases hg : goodL l with
    | true =>
      rw [hg, if_pos rfl] at HW
      clear hv hd hg h hn
      go_enter Try.func58, Try.ntmps58
      go_wp2_with fail
      refine (HW.out).mono ?_
      rintro e w1 ⟨rfl, hb⟩
      go_wp2_with fail
      go_returns
      exact ⟨rfl, hb⟩
    | false =>
      rw [hg, if_neg Bool.false_ne_true] at HW
      clear hv hd hg h hn
      go_enter Try.func58, Try.ntmps58
      go_wp2_with fail
      refine (HW.out).mono ?_
      rintro e w1 ⟨rfl, hb⟩
      go_wp2_with fail
      go_returns
      exact ⟨rfl, hb⟩
  · have hi : (n : Int) > 64 := by omega
    rw [hd, decide_eq_false h, Bool.false_and]
    clear hv hd h hn HW
    go_enter Try.func58, Try.ntmps58
    go_wp2_with fail
    go_returns
    exact ⟨rfl, by go_grown⟩
set_option maxRecDepth 100000 in
set_option maxHeartbeats 2000000 in
theorem sPeakOf (v : Value) (l : List (Int × Int)) (w : World) (hv : IG w v l) : Calls Try.prog 28 #[v] w (Ret w (.tuple #[.int .i64 (pkF l), .bool (hdOk l)])) := by
  have HS := Lib.hid (sdSignal_any v l w hv)
  have HV := Lib.hid hv
  obtain ⟨a, cap, rfl⟩ := hv.slice
  unfold pkF
  cases hd : hdOk l with
  | false =>
    rw [hd] at HS
    rw [if_neg Bool.false_ne_true]
    clear hv hd
    go_enter Try.func28, Try.ntmps28
    go_wp2_with fail
    refine (HS.out).mono ?_
    rintro e w1 ⟨rfl, hb⟩
    go_wp2_with fail
    go_returns
    exact ⟨rfl, hb⟩
  | true =>
    rw [hd] at HS
    rw [if_pos rfl]
    have h64 := hdOk_len hd
    have HG := Lib.hid (goodL_at (hdOk_good hd))
    have HMX := Lib.hid (fun k => show maxN (nmN l) (k + 1) = (if nmN l k > maxN (nmN l) k then nmN l k else maxN (nmN l) k) from rfl)
    have HNM := Lib.hid (fun k => show nmN l k = norm (gre l k) (gim l k) from rfl)
    have HPK := Lib.hid (show pkV l = maxN (nmN l) l.length from rfl)
    obtain ⟨R, hR⟩ : ∃ R, R = pkV l := ⟨_, rfl⟩
    rw [← hR] at HPK ⊢
    obtain ⟨M, hM⟩ : ∃ M, M = maxN (nmN l) := ⟨_, rfl⟩
    have HM0 := Lib.hid (show M 0 = 0 by rw [hM]; rfl)
    rw [← hM] at HMX HPK
    obtain ⟨n, hn⟩ : ∃ n, n = l.length := ⟨_, rfl⟩
    rw [← hn] at HS HV HG HPK h64 ⊢
    have HN := Lib.hid hn
    clear hv hd hR hM hn
    go_enter Try.func28, Try.ntmps28
    go_wp2_with fail
    refine (HS.out).mono ?_
    rintro e w1 ⟨rfl, hb⟩
    have HB1 := Lib.hid hb
    clear hb
    go_wp2_with fail
    go_loopw [12, 4] (fun i s wr => ∃ k : Nat, k ≤ n ∧ i = .int .i64 k ∧ s = .int .i64 (M k) ∧ Below w.heap.size w wr) (fun i _ _ => n - (intOf i).toNat)
    case atStart => exact ⟨0, Nat.zero_le _, rfl, by rw [HM0.out], HB1.out⟩
    case round =>
      obtain ⟨k, hk, rfl, rfl, hbel⟩ := hrel
      have HB := Lib.hid hbel
      clear hbel
      by_cases hlt : k < n
      · obtain ⟨b, off, rfl, hc1, hc2⟩ : ∃ b off, a = some ⟨b, off, none⟩ ∧ w.cell? ⟨b, off + k * 2, none⟩ = some (.int .i64 (gre l k)) ∧ w.cell? ⟨b, off + k * 2 + 1, none⟩ = some (.int .i64 (gim l k)) := by
          have hl : k < l.length := by rw [← HN.out]; exact hlt
          rcases HV.out with ⟨h0, _⟩ | ⟨_, bb, off, cap', hv, _, hc⟩
          · rw [h0] at hl; simp at hl
          · injection hv with e1 e2 e3
            exact ⟨bb, off, e1, hc k hl⟩
        have c1 := keepc HB.out hc1
        have c2 := keepc HB.out hc2
        have h0 : (0 : Int) ≤ (k : Int) := by omega
        have h1 : (k : Int) < (n : Int) := by omega
        have hg := good_in (HG.out k hlt)
        have hmx := HMX.out k
        have hnm := HNM.out k
        obtain ⟨x, hx⟩ : ∃ x, x = gre l k := ⟨_, rfl⟩
        obtain ⟨y, hy⟩ : ∃ y, y = gim l k := ⟨_, rfl⟩
        rw [← hx] at c1 hg hnm
        rw [← hy] at c2 hg hnm
        have HNW := Lib.hid (phNormW_any x y ⟨by omega, by omega⟩ ⟨by omega, by omega⟩)
        rw [← hnm] at HNW
        have HMO := Lib.hid (l1MostW_any (M k) (nmN l k))
        rw [← hmx] at HMO
        obtain ⟨z, hz⟩ : ∃ z, z = nmN l k := ⟨_, rfl⟩
        rw [← hz] at HNW HMO
        obtain ⟨M0, hM0⟩ : ∃ z, z = M k := ⟨_, rfl⟩
        obtain ⟨M1, hM1⟩ : ∃ z, z = M (k + 1) := ⟨_, rfl⟩
        rw [← hM0, ← hM1] at HMO
        rw [← hM0]
        have HM1 := Lib.hid hM1
        clear hx hy hg hmx hnm hz hM0 hM1 hc1 hc2
        go_wp2_with fail
        refine (HNW.out _).mono ?_
        rintro e w2 ⟨rfl, hb⟩
        have HB2 := Lib.hid (joins (belowa HB.out _) hb)
        clear hb
        go_wp2_with fail
        refine (HMO.out _).mono ?_
        rintro e w3 ⟨rfl, rfl⟩
        go_wp2_with fail
        go_roundw
        case rel => exact ⟨k + 1, by omega, by go_num, by rw [HM1.out], HB2.out⟩
        case measure => simp [intOf]; omega
      · obtain rfl : k = n := by omega
        go_wp2_with fail
        go_returns
        exact ⟨by rw [HPK.out]; rfl, HB.out⟩
end Go.Proofs.Ytapmehgdnofgnaa
