/- SumOf: the program's. -/
import Derived.Test.YtfjhocmnafdnfaaCors
namespace Go.Proofs.Ytfjhocmnafdnfaa
set_option maxRecDepth 100000
open Go.RowKit

set_option maxHeartbeats 1000000 in
theorem isumOf (v : Value) (l : List Int) (w : World) (hv : IS w v l) (hl : l.length ≤ 1048576) : Calls Try.prog 27 #[v] w (Ret w (.tuple #[.agg #[.int .i64 (sumX l), .int .i64 (sumY l)], .bool (isSeq l)])) := by
  by_cases hs : isSeq l = true
  · have e1 : sumX l = sumF vx l := if_pos hs
    have e2 : sumY l = sumF vy l := if_pos hs
    rw [e1, e2, hs]
    clear e1 e2
    have h32 := isSeq_len hs
    have hvv := hv
    obtain ⟨a, cap, rfl⟩ : ∃ a cap, v = .slice a l.length cap := by
      rcases hv with ⟨rfl, a, cap, rfl⟩ | ⟨_, b, off, cap, rfl, _⟩ <;> exact ⟨_, _, rfl⟩
    have hz0 := ZG.start w 39
    go_enter Try.func27, Try.ntmps27
    go_wp2_with fail
    refine (isSequence_any _ l _ (hvv.step hz0) hl).mono ?_
    rintro e w1 ⟨rfl, hb1⟩
    have hz1 := hz0.step hb1
    rw [hs]
    have HV := Lib.hid hvv
    have HS := Lib.hid hs
    clear hvv hv hs hb1 hz0
    go_wp2_with fail
    have hf0 : Value.complex .f32 0 0 = .complex .f32 (f32of 0) (f32of 0) := rfl
    go_loopw [13, 4] (fun i q wr => ∃ k : Nat, k ≤ l.length ∧ i = .int .i64 k ∧ q = .complex .f32 (f32of (sumF vx (l.take k))) (f32of (sumF vy (l.take k))) ∧ ZG w wr) (fun i _ _ => l.length - (intOf i).toNat)
    case atStart => exact ⟨0, Nat.zero_le _, rfl, rfl, hz1⟩
    case round =>
      obtain ⟨k, hk, rfl, rfl, hz⟩ := hrel
      by_cases hlt : k < l.length
      · rcases (HV.out.step hz) with ⟨h0, _⟩ | ⟨_, b, off, cap', hveq, _, hc⟩
        · rw [h0] at hlt; exact absurd hlt (Nat.not_lt_zero _)
        · simp only [Value.slice.injEq] at hveq
          obtain ⟨rfl, _, rfl⟩ := hveq
          have c1 := hc k hlt
          clear hc
          have hX := sum_small vx vx_one l h32 k hk
          have hY := sum_small vy vy_one l h32 k hk
          have hx2 := allIn_getD (isSeq_all HS.out) k hlt
          have hsx := sumF_take_succ vx l k hlt
          have hsy := sumF_take_succ vy l k hlt
          obtain ⟨x, hx⟩ : ∃ x, x = l.getD k 0 := ⟨_, rfl⟩
          rw [← hx] at c1 hx2 hsx hsy
          have hadd := fun w t => run_sum w t (sumF vx (l.take k)) (sumF vy (l.take k)) (vx x) (vy x) (by omega) (by omega) (by omega) (by omega) (vx_one x) (vy_one x)
          rw [← hsx, ← hsy] at hadd
          have HVO := Lib.hid (valueOf_any x hx2.1 hx2.2)
          clear hx hX hY hx2 hsx hsy
          obtain ⟨fa, hfa⟩ : ∃ fa, fa = f32of (sumF vx (l.take k)) := ⟨_, rfl⟩
          obtain ⟨fb, hfb⟩ : ∃ fb, fb = f32of (sumF vy (l.take k)) := ⟨_, rfl⟩
          obtain ⟨ga, hga⟩ : ∃ fa, fa = f32of (sumF vx (l.take (k + 1))) := ⟨_, rfl⟩
          obtain ⟨gb, hgb⟩ : ∃ fb, fb = f32of (sumF vy (l.take (k + 1))) := ⟨_, rfl⟩
          obtain ⟨va, hva⟩ : ∃ fa, fa = f32of (vx x) := ⟨_, rfl⟩
          obtain ⟨vb, hvb⟩ : ∃ fb, fb = f32of (vy x) := ⟨_, rfl⟩
          rw [← hfa, ← hfb, ← hga, ← hgb, ← hva, ← hvb] at hadd
          rw [← hva, ← hvb] at HVO
          rw [← hfa, ← hfb]
          have HGA := Lib.hid hga
          have HGB := Lib.hid hgb
          clear hfa hfb hga hgb hva hvb
          have h0 : (0 : Int) ≤ (k : Int) := by omega
          have h1 : (k : Int) < (l.length : Int) := by omega
          go_wp2_with fail
          refine (HVO.out _).mono ?_
          rintro e w2 ⟨rfl, hb2⟩
          have hz2 := hz.step hb2
          clear hz hb2
          go_wp2_with fail
          go_round
          case rel => exact ⟨k + 1, by omega, by go_num, by rw [HGA.out, HGB.out], hz2⟩
          case measure => simp [intOf]; omega
      · rw [List.take_of_length_le (by omega : l.length ≤ k)]
        have bX := sum_small vx vx_one l h32 l.length (Nat.le_refl _)
        have bY := sum_small vy vy_one l h32 l.length (Nat.le_refl _)
        rw [List.take_length] at bX bY
        have HG := Lib.hid (gaussOf_any (sumF vx l) (sumF vy l) (by omega) (by omega) (by omega) (by omega))
        obtain ⟨X, hX⟩ : ∃ X, X = sumF vx l := ⟨_, rfl⟩
        obtain ⟨Y, hY⟩ : ∃ Y, Y = sumF vy l := ⟨_, rfl⟩
        rw [← hX, ← hY] at HG ⊢
        have HX := Lib.hid hX
        have HY := Lib.hid hY
        clear bX bY hX hY
        obtain ⟨fa, hfa⟩ : ∃ fa, fa = f32of X := ⟨_, rfl⟩
        obtain ⟨fb, hfb⟩ : ∃ fb, fb = f32of Y := ⟨_, rfl⟩
        rw [← hfa, ← hfb] at HG ⊢
        clear hfa hfb
        go_wp2_with fail
        refine (HG.out _).mono ?_
        rintro e w2 ⟨rfl, hb2⟩
        have hz2 := hz.step hb2
        have HR := Lib.hid hz2
        obtain ⟨z1, z2, z3, z4, z5, z6⟩ := hz2
        clear hz hz1 hb2
        go_wp2_with fail
        (try simp only [Exit.inBlock, Exit.then])
        obtain ⟨d0, d2, d3⟩ := HR.out.ret (.int .i64 X) (.int .i64 Y)
        refine bodyPost_ret (by simp [results, Try.results27, go_sem, d0, d2]; try rfl) rfl ?_
        exact ⟨by rw [HX.out, HY.out], d3⟩
  · have hs2 : isSeq l = false := by simpa using hs
    have e1 : sumX l = 0 := by unfold sumX; rw [hs2]; rfl
    have e2 : sumY l = 0 := by unfold sumY; rw [hs2]; rfl
    rw [e1, e2, hs2]
    clear e1 e2 hs
    obtain ⟨a, cap, rfl⟩ : ∃ a cap, v = .slice a l.length cap := by
      rcases hv with ⟨rfl, a, cap, rfl⟩ | ⟨_, b, off, cap, rfl, _⟩ <;> exact ⟨_, _, rfl⟩
    have hz0 := ZG.start w 39
    go_enter Try.func27, Try.ntmps27
    go_wp2_with fail
    refine (isSequence_any _ l _ (hv.step hz0) hl).mono ?_
    rintro e w1 ⟨rfl, hb1⟩
    have hz1 := hz0.step hb1
    have HR := Lib.hid hz1
    obtain ⟨z1, z2, z3, z4, z5, z6⟩ := hz1
    rw [hs2]
    clear hs2 hb1 hz0
    go_wp2_with fail
    (try simp only [Exit.inBlock, Exit.then])
    obtain ⟨d0, d2, d3⟩ := HR.out.ret (.int .i64 0) (.int .i64 0)
    refine bodyPost_ret (by simp [results, Try.results27, go_sem, d0, d2]; try rfl) rfl ?_
    exact ⟨rfl, d3⟩
end Go.Proofs.Ytfjhocmnafdnfaa
