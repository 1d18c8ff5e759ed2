/- The model's crValue and ValueAtRoot. -/
import Derived.Test.YtmckophclehkpaaSPhS
import Derived.Test.YtmckophclehkpaaBClimbBy
import Derived.Test.YtmckophclehkpaaIVr
namespace Go.Proofs.Ytmckophclehkpaa
open Go.RowKit

theorem climbG_seq (l : List Int) (k : Int) (h : isSeq l = true) : isSeq (climbG l k) = true := by
  have h32 := isSeq_len h
  refine isSeq_of (by unfold climbG; rw [gen_length]; exact h32) ?_
  unfold allIn climbG gen
  rw [List.all_eq_true]
  intro x hx
  simp only [List.mem_map, List.mem_range] at hx
  obtain ⟨i, _, rfl⟩ := hx
  simp [inB]; omega
theorem climbG_sum (f : Int → Int) (l : List Int) (k : Int) : sumF f (climbG l k) = vrS f l k := by
  unfold climbG
  rw [sumF_gen]
  rfl
set_option maxHeartbeats 1000000 in
theorem crValue_any (v : Value) (l : List Int) (k : Int) (w : World) (hv : IS w v l) (hs : isSeq l = true) (hk1 : 0 ≤ k) (hk2 : k ≤ 3) : Calls Try.prog 46 #[v, .int .i64 k] w (Ret w (.agg #[.int .i64 (vrS vx l k), .int .i64 (vrS vy l k)])) := by
  have hz0 := ZG.start w 24
  obtain ⟨a, cap, rfl⟩ : ∃ a cap, v = .slice a l.length cap := by rcases hv with ⟨rfl, a, cap, rfl⟩ | ⟨_, b, off, cap, rfl, _⟩ <;> exact ⟨_, _, rfl⟩
  have HC := Lib.hid (phClimb_any _ l k _ (hv.step hz0) hs hk1 hk2)
  have HP : ∀ u w, IS w u (climbG l k) → Calls Try.prog 57 #[u] w (Ret w (.agg #[.int .i64 (vrS vx l k), .int .i64 (vrS vy l k)])) := fun u w h => by
    have := phSum_any u (climbG l k) w h (climbG_seq l k hs)
    rwa [climbG_sum, climbG_sum] at this
  obtain ⟨X, hX⟩ : ∃ f, f = vrS vx l k := ⟨_, rfl⟩
  obtain ⟨Y, hY⟩ : ∃ f, f = vrS vy l k := ⟨_, rfl⟩
  rw [← hX, ← hY] at HP ⊢
  have HP' := Lib.hid HP
  have HZ0 := Lib.hid hz0
  clear hX hY HP hz0 hv hs
  go_enter Try.func46, Try.ntmps46
  go_wp2_with fail
  refine (HC.out).mono ?_
  rintro e w1 ⟨v1, rfl, ho1, hb1⟩
  have HZ1 := Lib.hid (HZ0.out.step hb1)
  have HO1 := Lib.hid ho1
  clear hb1 ho1
  go_wp2_with fail
  refine (HP'.out _ _ HO1.out.is).mono ?_
  rintro e w2 ⟨rfl, hb2⟩
  have hz2 := HZ1.out.step hb2
  have HR := Lib.hid hz2
  obtain ⟨z1, z2, z3, z4, z5, z6⟩ := hz2
  clear hb2
  go_wp2_with fail
  (try simp only [Exit.inBlock, Exit.then])
  obtain ⟨d0, d2, d3⟩ := HR.out.ret (.int .i64 X) (.int .i64 Y)
  refine bodyPost_ret (by simp [results, Try.results46, go_sem, d0, d2]; try rfl) rfl ?_
  exact ⟨rfl, d3⟩

set_option maxHeartbeats 1000000 in
theorem svalueAtRoot (va : Value) (a : List Int) (k : Int) (w : World) (hva : IS w va a) (hla : a.length ≤ 1048576) :
    Calls Try.prog 27 #[va, .int .i64 k] w (Ret w (.tuple #[.agg #[.int .i64 (vrF vx a k), .int .i64 (vrF vy a k)], .bool (vrOk a k)])) := by
  have hz0 := ZG.start w 24
  obtain ⟨p, cap, rfl⟩ : ∃ p cap, va = .slice p a.length cap := by rcases hva with ⟨rfl, a, cap, rfl⟩ | ⟨_, b, off, cap, rfl, _⟩ <;> exact ⟨_, _, rfl⟩
  have HI := phIs_any _ a _ (hva.step hz0) hla
  have HCR : isSeq a = true → 0 ≤ k → k ≤ 3 → ∀ w', ZG w w' → Calls Try.prog 46 #[.slice p a.length cap, .int .i64 k] w' (Ret w' (.agg #[.int .i64 (vrS vx a k), .int .i64 (vrS vy a k)])) := fun h0 h1 h2 w' hz => crValue_any _ a k w' (hva.step hz) h0 h1 h2
  have e1 : vrF vx a k = if isSeq a = true ∧ 0 ≤ k ∧ k ≤ 3 then vrS vx a k else 0 := by unfold vrF vrOk; cases isSeq a <;> simp
  have e2 : vrF vy a k = if isSeq a = true ∧ 0 ≤ k ∧ k ≤ 3 then vrS vy a k else 0 := by unfold vrF vrOk; cases isSeq a <;> simp
  have e3 : vrOk a k = decide (isSeq a = true ∧ 0 ≤ k ∧ k ≤ 3) := by unfold vrOk; cases isSeq a <;> simp
  rw [e1, e2, e3]
  obtain ⟨X, hX⟩ : ∃ f, f = vrS vx a k := ⟨_, rfl⟩
  obtain ⟨Y, hY⟩ : ∃ f, f = vrS vy a k := ⟨_, rfl⟩
  rw [← hX, ← hY] at HCR ⊢
  obtain ⟨sa, hsq⟩ : ∃ s, s = isSeq a := ⟨_, rfl⟩
  rw [← hsq] at HCR HI ⊢
  have HI' := Lib.hid HI
  have HCR' := Lib.hid HCR
  have HZ0 := Lib.hid hz0
  have HIN := fun w => l1In_any k 0 3 w
  clear HI HCR hX hY hsq e1 e2 e3 hz0 hva hla
  by_cases hok : sa = true ∧ 0 ≤ k ∧ k ≤ 3
  · rw [if_pos hok, if_pos hok, decide_eq_true hok]
    obtain ⟨rfl, hk1, hk2⟩ := hok
    rw [show inB k 0 3 = true by simp [inB]; omega] at HIN
    have HIN' := Lib.hid HIN
    clear HIN
    go_enter Try.func27, Try.ntmps27
    go_wp2_with fail
    refine (HI'.out).mono ?_
    rintro e w1 ⟨rfl, hb1⟩
    have HZ1 := Lib.hid (HZ0.out.step hb1)
    clear hb1
    go_wp2_with fail
    refine (HIN'.out _).mono ?_
    rintro e w2 ⟨rfl, rfl⟩
    go_wp2_with fail
    refine (HCR'.out (by trivial) hk1 hk2 _ HZ1.out).mono ?_
    rintro e w3 ⟨rfl, hb3⟩
    have hz3 := HZ1.out.step hb3
    have HR := Lib.hid hz3
    obtain ⟨z1, z2, z3, z4, z5, z6⟩ := hz3
    clear hb3
    go_wp2_with fail
    (try simp only [Exit.inBlock, Exit.then])
    obtain ⟨d0, d2, d3⟩ := HR.out.ret (.int .i64 X) (.int .i64 Y)
    refine bodyPost_ret (by simp [results, Try.results27, go_sem, d0, d2]; try rfl) rfl ?_
    exact ⟨rfl, d3⟩
  · rw [if_neg hok, if_neg hok, decide_eq_false hok]
    rcases (show sa = false ∨ (sa = true ∧ ¬ (0 ≤ k ∧ k ≤ 3)) by cases sa <;> simp at hok ⊢; omega) with rfl | ⟨rfl, hk⟩
    rotate_left 1
    rw [show inB k 0 3 = false by simp [inB]; omega] at HIN
    clear hk
    rotate_left 1
    all_goals
      clear hok
      have HIN' := Lib.hid HIN
      clear HIN
      go_enter Try.func27, Try.ntmps27
      go_wp2_with fail
      refine (HI'.out).mono ?_
      rintro e w1 ⟨rfl, hb1⟩
      have hz1 := HZ0.out.step hb1
      have HR := Lib.hid hz1
      obtain ⟨z1, z2, z3, z4, z5, z6⟩ := hz1
      clear hb1
      go_wp2_with fail
      first | (refine (HIN'.out _).mono ?_; rintro e w2 ⟨rfl, rfl⟩; go_wp2_with fail) | skip
      (try simp only [Exit.inBlock, Exit.then])
      obtain ⟨d0, d2, d3⟩ := HR.out.ret (.int .i64 0) (.int .i64 0)
      refine bodyPost_ret (by simp [results, Try.results27, go_sem, d0, d2]; try rfl) rfl ?_
      exact ⟨rfl, d3⟩
end Go.Proofs.Ytmckophclehkpaa
