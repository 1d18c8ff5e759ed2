/- The model's crValue and ValueAtRoot. -/
import Derived.Test.YtodgalflngfnpaaSPhS
import Derived.Test.YtodgalflngfnpaaSMov
import Derived.Test.YtodgalflngfnpaaIVr
namespace Go.Proofs.Ytodgalflngfnpaa
set_option maxRecDepth 100000
open Go.RowKit

theorem climbG_seq (l : List Int) (k : Int) (h : isSeq l = true) : isSeq (climbG l k) = true := by
  have h32 := isSeq_len h
  refine isSeq_of (by unfold climbG; rw [gen_length]; exact h32) ?_
  unfold allIn climbG gen
  rw [List.all_eq_true]
  intro x hx
  simp only [List.mem_map, List.mem_range] at hx
  obtain ⟨i, _, rfl⟩ := hx
  simp [inB]; omega
theorem climbG_sum (f : Int → Int) (l : List Int) (k : Int) : sumF f (climbG l k) = vrS f l k := by
  unfold climbG
  rw [sumF_gen]
  rfl
set_option maxHeartbeats 1000000 in
theorem crValue_any (v : Value) (l : List Int) (k : Int) (w : World) (hv : IS w v l) (hs : isSeq l = true) (hk1 : 0 ≤ k) (hk2 : k ≤ 3) : Calls Try.prog 80 #[v, .int .i64 k] w (Ret w (.agg #[.int .i64 (vrS vx l k), .int .i64 (vrS vy l k)])) := by
  have hz0 := ZG.start w 54
  obtain ⟨a, cap, rfl⟩ : ∃ a cap, v = .slice a l.length cap := by rcases hv with ⟨rfl, a, cap, rfl⟩ | ⟨_, b, off, cap, rfl, _⟩ <;> exact ⟨_, _, rfl⟩
  have HC := Lib.hid (phClimb_any _ l k _ (hv.step hz0) hs hk1 hk2)
  have HP : ∀ u w, IS w u (climbG l k) → Calls Try.prog 95 #[u] w (Ret w (.agg #[.int .i64 (vrS vx l k), .int .i64 (vrS vy l k)])) := fun u w h => by
    have := phSum_any u (climbG l k) w h (climbG_seq l k hs)
    rwa [climbG_sum, climbG_sum] at this
  obtain ⟨X, hX⟩ : ∃ f, f = vrS vx l k := ⟨_, rfl⟩
  obtain ⟨Y, hY⟩ : ∃ f, f = vrS vy l k := ⟨_, rfl⟩
  rw [← hX, ← hY] at HP ⊢
  have HP' := Lib.hid HP
  have HZ0 := Lib.hid hz0
  clear hX hY HP hz0 hv hs
  go_enter Try.func80, Try.ntmps80
  go_wp2_with fail
  refine (HC.out).mono ?_
  rintro e w1 ⟨v1, rfl, ho1, hb1⟩
  have HZ1 := Lib.hid (HZ0.out.step hb1)
  have HO1 := Lib.hid ho1
  clear hb1 ho1
  go_wp2_with fail
  refine (HP'.out _ _ HO1.out.is).mono ?_
  rintro e w2 ⟨rfl, hb2⟩
  have hz2 := HZ1.out.step hb2
  have HR := Lib.hid hz2
  obtain ⟨z1, z2, z3, z4, z5, z6⟩ := hz2
  clear hb2
  go_wp2_with fail
  (try simp only [Exit.inBlock, Exit.then])
  obtain ⟨d0, d2, d3⟩ := HR.out.ret (.int .i64 X) (.int .i64 Y)
  refine bodyPost_ret (by simp [results, Try.results80, go_sem, d0, d2]; try rfl) rfl ?_
  exact ⟨rfl, d3⟩

end Go.Proofs.Ytodgalflngfnpaa
