/- The model's sum of a sequence. -/
import Derived.Test.YtbppbkoppbnodabSPh
namespace Go.Proofs.Ytbppbkoppbnodab
set_option maxRecDepth 100000
open Go.RowKit

set_option maxHeartbeats 1000000 in
theorem phSum_any (v : Value) (l : List Int) (w : World) (hv : IS w v l) (hs : isSeq l = true) : Calls Try.prog 49 #[v] w (Ret w (.agg #[.int .i64 (sumF vx l), .int .i64 (sumF vy l)])) := by
  have h32 := isSeq_len hs
  have hvv := hv
  obtain ⟨a, cap, rfl⟩ : ∃ a cap, v = .slice a l.length cap := by
    rcases hv with ⟨rfl, a, cap, rfl⟩ | ⟨_, b, off, cap, rfl, _⟩ <;> exact ⟨_, _, rfl⟩
  have HV := Lib.hid hvv
  have HS := Lib.hid hs
  clear hvv hv hs
  go_enter Try.func49, Try.ntmps49
  go_wp2_with fail
  go_loopw [9] (fun i wr => ∃ k : Nat, k ≤ l.length ∧ i = .int .i64 k ∧ ZS w (sumF vx (l.take k)) (sumF vy (l.take k)) wr) (fun i _ => l.length - (intOf i).toNat)
  case atStart =>
    exact ⟨0, Nat.zero_le _, rfl, ZS.start w _⟩
  case round =>
    obtain ⟨k, hk, rfl, hz⟩ := hrel
    by_cases hlt : k < l.length
    · rcases (HV.out.below hz.below) with ⟨h0, _⟩ | ⟨_, b, off, cap', hveq, _, hc⟩
      · rw [h0] at hlt; exact absurd hlt (Nat.not_lt_zero _)
      · simp only [Value.slice.injEq] at hveq
        obtain ⟨rfl, _, rfl⟩ := hveq
        have c1 := hc k hlt
        clear hc
        have hX := sum_small vx vx_one l h32 k hk
        have hY := sum_small vy vy_one l h32 k hk
        have hx2 := allIn_getD (isSeq_all HS.out) k hlt
        have hsx := sumF_take_succ vx l k hlt
        have hsy := sumF_take_succ vy l k hlt
        obtain ⟨x, hx⟩ : ∃ x, x = l.getD k 0 := ⟨_, rfl⟩
        rw [← hx] at c1 hx2 hsx hsy
        have HVO := Lib.hid (phValue_any x hx2.1 hx2.2)
        have hvx := vx_one x
        have hvy := vy_one x
        clear hx hx2
        have HP := Lib.hid (phPlus_any (sumF vx (l.take k)) (sumF vy (l.take k)) (vx x) (vy x) (by omega) (by omega) (by omega) (by omega))
        rw [← hsx, ← hsy] at HP
        clear hsx hsy hX hY hvx hvy
        obtain ⟨X, hX⟩ : ∃ X, X = sumF vx (l.take k) := ⟨_, rfl⟩
        obtain ⟨Y, hY⟩ : ∃ Y, Y = sumF vy (l.take k) := ⟨_, rfl⟩
        obtain ⟨X1, hX1⟩ : ∃ X, X = sumF vx (l.take (k + 1)) := ⟨_, rfl⟩
        obtain ⟨Y1, hY1⟩ : ∃ Y, Y = sumF vy (l.take (k + 1)) := ⟨_, rfl⟩
        obtain ⟨p, hp⟩ : ∃ p, p = vx x := ⟨_, rfl⟩
        obtain ⟨q, hq⟩ : ∃ q, q = vy x := ⟨_, rfl⟩
        rw [← hX, ← hY, ← hX1, ← hY1, ← hp, ← hq] at HP
        rw [← hp, ← hq] at HVO
        rw [← hX, ← hY] at hz
        have HX1 := Lib.hid hX1
        have HY1 := Lib.hid hY1
        clear hX hY hX1 hY1 hp hq
        have h0 : (0 : Int) ≤ (k : Int) := by omega
        have h1 : (k : Int) < (l.length : Int) := by omega
        have hz2 := hz.drew
        have ⟨z0, z1, z2, z3, z4, z5, z6, z7, z8, z9⟩ := hz
        go_wp2_with fail
        go_region_with (first
          | (go_at_call 60; refine (HVO.out _).mono ?_; rintro e w' ⟨rfl, hb⟩; have hz3 := ZS.step (by assumption) hb; have ⟨_, _, _, _, _, _, _, _, _, _⟩ := hz3)
          | (go_at_call 48; refine (HP.out _).mono ?_; rintro e w' ⟨rfl, hb⟩; have hz3 := ZS.step (by assumption) hb; have ⟨_, _, _, _, _, _, _, _, _, _⟩ := hz3))
        all_goals
          have hz4 := ZS.store (by assumption) X1 Y1
          have HZ := Lib.hid hz4
          clear hz4
          go_wp2_with fail
          go_round
          case rel => exact ⟨k + 1, by omega, by go_num, by rw [← HX1.out, ← HY1.out]; exact HZ.out⟩
          case measure => simp [intOf]; omega
    · rw [List.take_of_length_le (by omega : l.length ≤ k)] at hz
      obtain ⟨X, hX⟩ : ∃ X, X = sumF vx l := ⟨_, rfl⟩
      obtain ⟨Y, hY⟩ : ∃ Y, Y = sumF vy l := ⟨_, rfl⟩
      rw [← hX, ← hY] at hz
      have HX := Lib.hid hX
      have HY := Lib.hid hY
      clear hX hY
      have HZ := Lib.hid hz
      obtain ⟨z0, z1, z2, z3, z4, z5, z6, z7, z8, z9⟩ := hz
      go_wp2_with fail
      (try simp only [Exit.inBlock, Exit.then])
      obtain ⟨e0, e1, e2⟩ := HZ.out.ret
      refine bodyPost_ret (by simp [results, Try.results49, go_sem, e0, e1]; try rfl) rfl ?_
      exact ⟨by rw [HX.out, HY.out], e2⟩

end Go.Proofs.Ytbppbkoppbnodab
