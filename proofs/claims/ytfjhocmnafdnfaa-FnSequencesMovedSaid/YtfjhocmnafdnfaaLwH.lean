/- The helpers of the laws of several functions: how many letters came in, sums and products of Gaussian numbers, lists compared. -/
import Derived.Test.YtfjhocmnafdnfaaCur
import Derived.Test.YtfjhocmnafdnfaaPv
import Derived.Test.YtfjhocmnafdnfaaTN
namespace Go.Proofs.Ytfjhocmnafdnfaa
set_option maxRecDepth 100000
open Go.RowKit

theorem prodL_le (x y : Int) (hx : -1000000 ≤ x ∧ x ≤ 1000000) (hy : -1000000 ≤ y ∧ y ≤ 1000000) : -1000000000000 ≤ x * y ∧ x * y ≤ 1000000000000 := by
  have h : x.natAbs * y.natAbs ≤ 1000000 * 1000000 := Nat.mul_le_mul (by omega) (by omega)
  rw [← Int.natAbs_mul] at h
  omega
/-- Few letters came in. -/
def few (a b : List Int) : Bool := decide (a.length + b.length ≤ 1048576)
set_option maxHeartbeats 1000000 in
theorem big_any (va vb : Value) (a b : List Int) (w : World) (ha : BS w va a) (hb : BS w vb b) : Calls Try.prog 18 #[va, vb] w (Ret w (.bool (!few a b))) := by
  obtain ⟨pa, ca, rfl⟩ := ha.sl
  obtain ⟨pb, cb, rfl⟩ := hb.sl
  have l1 := ha.len
  have l2 := hb.len
  unfold few
  obtain ⟨N, hN⟩ : ∃ N, N = a.length := ⟨_, rfl⟩
  obtain ⟨M, hM⟩ : ∃ N, N = b.length := ⟨_, rfl⟩
  rw [← hN, ← hM]
  rw [← hN] at l1
  rw [← hM] at l2
  clear ha hb hN hM
  by_cases h1 : N ≤ 1048576
  · have g1 : ¬ (N : Int) > 1048576 := by omega
    by_cases h2 : N + M ≤ 1048576
    · have g2 : ¬ (M : Int) > 1048576 - (N : Int) := by omega
      rw [decide_eq_true h2]
      go_enter Try.func18, Try.ntmps18
      go_wp2_with fail
      go_returns
      exact ⟨ret_bool (by simp), by go_grown⟩
    · have g2 : (M : Int) > 1048576 - (N : Int) := by omega
      rw [decide_eq_false h2]
      go_enter Try.func18, Try.ntmps18
      go_wp2_with fail
      go_returns
      exact ⟨ret_bool (by simp), by go_grown⟩
  · have g1 : (N : Int) > 1048576 := by omega
    rw [decide_eq_false (show ¬ N + M ≤ 1048576 by omega)]
    go_enter Try.func18, Try.ntmps18
    go_wp2_with fail
    go_returns
    exact ⟨rfl, by go_grown⟩
set_option maxHeartbeats 1000000 in
theorem cTimes_any (x y u v : Int) (h1 : -1000000 ≤ x ∧ x ≤ 1000000) (h2 : -1000000 ≤ y ∧ y ≤ 1000000) (h3 : -1000000 ≤ u ∧ u ≤ 1000000) (h4 : -1000000 ≤ v ∧ v ≤ 1000000) (w : World) :
    Calls Try.prog 28 #[.agg #[.int .i64 x, .int .i64 y], .agg #[.int .i64 u, .int .i64 v]] w (Ret w (.agg #[.int .i64 (x * u - y * v), .int .i64 (x * v + y * u)])) := by
  have p1 := prodL_le x u h1 h3
  have p2 := prodL_le y v h2 h4
  have p3 := prodL_le x v h1 h4
  have p4 := prodL_le y u h2 h3
  obtain ⟨A, hA⟩ : ∃ A, A = x * u := ⟨_, rfl⟩
  obtain ⟨C, hC⟩ : ∃ A, A = y * v := ⟨_, rfl⟩
  obtain ⟨E, hE⟩ : ∃ A, A = x * v := ⟨_, rfl⟩
  obtain ⟨F, hF⟩ : ∃ A, A = y * u := ⟨_, rfl⟩
  rw [← hA] at p1 ⊢
  rw [← hC] at p2 ⊢
  rw [← hE] at p3 ⊢
  rw [← hF] at p4 ⊢
  have wA : wrap64 (x * u) = A := by rw [← hA]; exact IntWalk.wrap64_in A ⟨by omega, by omega⟩
  have wC : wrap64 (y * v) = C := by rw [← hC]; exact IntWalk.wrap64_in C ⟨by omega, by omega⟩
  have wE : wrap64 (x * v) = E := by rw [← hE]; exact IntWalk.wrap64_in E ⟨by omega, by omega⟩
  have wF : wrap64 (y * u) = F := by rw [← hF]; exact IntWalk.wrap64_in F ⟨by omega, by omega⟩
  have wS : wrap64 (A - C) = A - C := IntWalk.wrap64_in _ ⟨by omega, by omega⟩
  have wT : wrap64 (E + F) = E + F := IntWalk.wrap64_in _ ⟨by omega, by omega⟩
  clear hA hC hE hF h1 h2 h3 h4 p1 p2 p3 p4
  go_enter Try.func28, Try.ntmps28
  go_wp2
  go_returns
  exact ⟨rfl, by go_grown⟩
set_option maxHeartbeats 1000000 in
theorem cPlus_any (X Y a b : Int) (h1 : -1000000000000000 ≤ X ∧ X ≤ 1000000000000000) (h2 : -1000000000000000 ≤ Y ∧ Y ≤ 1000000000000000) (h3 : -1000000000000000 ≤ a ∧ a ≤ 1000000000000000) (h4 : -1000000000000000 ≤ b ∧ b ≤ 1000000000000000) (w : World) :
    Calls Try.prog 51 #[.agg #[.int .i64 X, .int .i64 Y], .agg #[.int .i64 a, .int .i64 b]] w (Ret w (.agg #[.int .i64 (X + a), .int .i64 (Y + b)])) := by
  obtain ⟨h11, h12⟩ := h1
  obtain ⟨h21, h22⟩ := h2
  obtain ⟨h31, h32⟩ := h3
  obtain ⟨h41, h42⟩ := h4
  go_enter Try.func51, Try.ntmps51
  go_wp2
  go_returns
  exact ⟨rfl, by go_grown⟩
set_option maxHeartbeats 1000000 in
theorem cBar_any (X Y : Int) (h2 : -1000000 ≤ Y ∧ Y ≤ 1000000) (w : World) : Calls Try.prog 30 #[.agg #[.int .i64 X, .int .i64 Y]] w (Ret w (.agg #[.int .i64 X, .int .i64 (-Y)])) := by
  obtain ⟨h21, h22⟩ := h2
  go_enter Try.func30, Try.ntmps30
  go_wp2
  go_returns
  exact ⟨rfl, by go_grown⟩
theorem modT (k : Int) : Int.tmod (Int.tmod k 4 + 4) 4 = k % 4 := by
  rw [Int.tmod_eq_emod, Int.tmod_eq_emod]
  split <;> split <;> omega
set_option maxHeartbeats 1000000 in
theorem cValue_any (k : Int) (w : World) : Calls Try.prog 29 #[.int .i64 k] w (Ret w (.agg #[.int .i64 (vx (k % 4)), .int .i64 (vy (k % 4))])) := by
  have hm : 0 ≤ k % 4 ∧ k % 4 ≤ 3 := by omega
  have HP := Lib.hid (fun w => iphaseValue_any (k % 4) w)
  have e1 : pvx (k % 4) = vx (k % 4) := if_pos hm
  have e2 : pvy (k % 4) = vy (k % 4) := if_pos hm
  rw [e1, e2] at HP
  have hM := modT k
  have hB : -3 ≤ Int.tmod k 4 ∧ Int.tmod k 4 ≤ 3 := by rw [Int.tmod_eq_emod]; split <;> omega
  have hW : wrap64 (Int.tmod k 4 + 4) = Int.tmod k 4 + 4 := IntWalk.wrap64_in _ ⟨by omega, by omega⟩
  have T0 := TN.new (B := 0) (W := w) (Nat.zero_le _) (.int .i64 0) (.int .i64 0) 39
  have B0 := Lib.hid (belowa (Below.refl w.heap.size w) (.cells #[.int .i64 0, .int .i64 0] 39))
  clear hm e1 e2 hB
  obtain ⟨X, hX⟩ : ∃ X, X = vx (k % 4) := ⟨_, rfl⟩
  obtain ⟨Y, hY⟩ : ∃ X, X = vy (k % 4) := ⟨_, rfl⟩
  rw [← hX, ← hY] at HP ⊢
  clear hX hY
  go_enter Try.func29, Try.ntmps29
  go_wp2_with fail
  (try rw [hW, hM])
  refine (HP.out _).mono ?_
  rintro e w1 ⟨rfl, hb1⟩
  have T1 := (T0.step hb1).alloc (.cells #[.int .i64 X, .int .i64 Y] 39)
  have d0 := cell_new0 w1 (.int .i64 X) (.int .i64 Y) 39
  have d1 := cell_new1 w1 (.int .i64 X) (.int .i64 Y) 39
  have HT := Lib.hid T1
  have B1 := Lib.hid (belowa (joins B0.out hb1) (.cells #[.int .i64 X, .int .i64 Y] 39))
  have t0 := T1.n0
  have t1 := T1.n1
  have t2 := T1.m0
  have t3 := T1.m1
  clear T0 T1 hb1
  go_wp2_with fail
  have HQ := HT.out.put (.int .i64 X) (.int .i64 Y)
  have d0 := HQ.n0
  have d1 := HQ.n1
  refine bodyPost_ret (by simp [results, Try.results29, go_sem, d0, d1]; try rfl) rfl ?_
  exact ⟨rfl, belows (belows B1.out (Nat.le_refl _) _) (Nat.le_refl _) _⟩
set_option maxRecDepth 100000 in
set_option maxHeartbeats 2000000 in
/-- Lists compared. -/
theorem cSame_any (va vb : Value) (l m : List Int) (w : World) (ha : IS w va l) (hb : IS w vb m) : Calls Try.prog 24 #[va, vb] w (Ret w (.bool (decide (l = m)))) := by
  by_cases hlen : l.length = m.length
  · rcases ha with ⟨rfl, pa, ca, rfl⟩ | ⟨hn, b, off, cap, rfl, hm1, hc⟩
    · have : m = [] := List.length_eq_zero_iff.1 hlen.symm
      subst this
      rcases hb with ⟨-, pb, cb, rfl⟩ | ⟨hn, -⟩
      · go_enter Try.func24, Try.ntmps24
        go_wp2_with fail
        go_loopw [13] (fun q wr => q = .int .i64 0 ∧ Below w.heap.size w wr) (fun _ _ => 0)
        case atStart => exact ⟨rfl, by go_grown⟩
        case round =>
          obtain ⟨rfl, hbel⟩ := hrel
          go_wp2_with fail
          go_returns
          exact ⟨rfl, hbel⟩
      · exact (hn rfl).elim
    · rcases hb with ⟨rfl, -⟩ | ⟨hn', b', off', cap', rfl, hm2, hc'⟩
      · exact (hn (List.length_eq_zero_iff.1 hlen)).elim
      · have HC := Lib.hid hc
        have HC' := Lib.hid hc'
        obtain ⟨N, hN⟩ : ∃ N, N = l.length := ⟨_, rfl⟩
        have hN2 : m.length = N := by omega
        rw [hN2, ← hN]
        rw [← hN] at HC hm1
        rw [hN2] at HC'
        have HL := Lib.hid (And.intro hN.symm hN2)
        have hmx := maxLen_val
        obtain ⟨r, hr⟩ : ∃ r, r = decide (l = m) := ⟨_, rfl⟩
        have HR := Lib.hid hr
        rw [← hr]
        have hNm : N ≤ 9223372036854775807 := by omega
        clear hc hc' hn hn' hlen hN hN2 hm1 hm2 hmx hr
        go_enter Try.func24, Try.ntmps24
        go_wp2_with fail
        go_loopw [13] (fun q wr => ∃ k : Nat, k ≤ N ∧ q = .int .i64 k ∧ (∀ i, i < k → l.getD i 0 = m.getD i 0) ∧ Below w.heap.size w wr) (fun q _ => N - (intOf q).toNat)
        case atStart => exact ⟨0, Nat.zero_le _, rfl, fun i hi => absurd hi (by omega), by go_grown⟩
        case round =>
          obtain ⟨k, hk, rfl, hall, hbel⟩ := hrel
          have HA := Lib.hid hall
          have HB := Lib.hid hbel
          clear hall hbel
          by_cases hlt : k < N
          · have h0 : (0 : Int) ≤ (k : Int) := by omega
            have h1 : (k : Int) < (N : Int) := by omega
            have c1 := keepc HB.out (HC.out k hlt)
            have c2 := keepc HB.out (HC'.out k hlt)
            obtain ⟨x, hx⟩ : ∃ x, x = l.getD k 0 := ⟨_, rfl⟩
            obtain ⟨y, hy⟩ : ∃ x, x = m.getD k 0 := ⟨_, rfl⟩
            have HX := Lib.hid hx
            have HY := Lib.hid hy
            rw [← hx] at c1
            rw [← hy] at c2
            clear hx hy
            by_cases hxy : x = y
            · subst hxy
              go_wp2_with fail
              go_region
              go_wp2_with fail
              go_roundw
              case rel => exact ⟨k + 1, by omega, by go_num, fun i hi => by rcases Nat.lt_succ_iff_lt_or_eq.1 hi with h | h; exact HA.out i h; subst h; rw [← HX.out, ← HY.out], belowN HB.out 1⟩
              case measure => simp [intOf]; omega
            · have hf : r = false := by
                rw [HR.out]
                refine decide_eq_false (fun e => hxy ?_)
                rw [HX.out, HY.out, e]
              subst hf
              have hne : (x == y) = false := by simpa using hxy
              go_wp2_with fail
              go_region
              go_wp2_with fail
              go_returns
              exact ⟨rfl, belowN HB.out 1⟩
          · obtain rfl : k = N := by omega
            have hf : r = true := by
              rw [HR.out]
              refine decide_eq_true (List.ext_getElem (HL.out.1.trans HL.out.2.symm) (fun i h1 h2 => ?_))
              have h3 := HA.out i (by rw [HL.out.1] at h1; exact h1)
              simpa [List.getD, h1, h2] using h3
            subst hf
            go_wp2_with fail
            go_returns
            exact ⟨rfl, HB.out⟩
  · have hne : l ≠ m := fun e => hlen (by rw [e])
    have hne1 : (((l.length : Int)) == (m.length : Int)) = false := by simpa using (show ¬ (l.length : Int) = m.length by omega)
    have hne2 : ¬ (l.length : Int) = (m.length : Int) := by omega
    rw [decide_eq_false hne]
    obtain ⟨pa, ca, rfl⟩ := ha.shape
    obtain ⟨pb, cb, rfl⟩ := hb.shape
    clear ha hb hne hlen
    go_enter Try.func24, Try.ntmps24
    go_wp2_with fail
    go_returns
    exact ⟨rfl, by go_grown⟩
end Go.Proofs.Ytfjhocmnafdnfaa
