/- The model's ShiftBy. -/
import Derived.Test.YtfjhocmnafdnfaaBShiftBy
namespace Go.Proofs.Ytfjhocmnafdnfaa
set_option maxRecDepth 100000
open Go.RowKit

set_option maxHeartbeats 1000000 in
theorem sshift (v : Value) (l : List Int) (k : Int) (w : World) (hv : IS w v l) (hlen : l.length ≤ 1048576) : Calls Try.prog 23 #[v, .int .i64 k] w (MakesB w (shiftF l k) (shiftOk l k)) := by
  obtain ⟨a, cap, hveq⟩ : ∃ a cap, v = .slice a l.length cap := by rcases hv with ⟨rfl, a, cap, rfl⟩ | ⟨_, b, off, cap, rfl, _⟩ <;> exact ⟨_, _, rfl⟩
  subst hveq
  by_cases hs : isSeq l = true
  · by_cases hin : inB k (-1000) 1000 = true
    · have hk1 : -1000 ≤ k := by simp [inB] at hin; omega
      have hk2 : k ≤ 1000 := by simp [inB] at hin; omega
      have ho : shiftOk l k = true := by simp [shiftOk, hs, hk1, hk2]
      have hf : shiftF l k = shiftG l k := by simp [shiftF, ho]
      rw [ho, hf]
      clear ho hf
      go_enter Try.func23, Try.ntmps23
      go_wp2_with (first
        | (go_at_call 110; refine (phIs_any _ l _ hv hlen).mono ?_; rintro e w1 ⟨rfl, hb1⟩)
        | (go_at_call 122; refine (l1In_any _ _ _ _).mono ?_; rintro e w' ⟨rfl, rfl⟩)
        | (go_at_call 114; refine (phShift_any _ l k _ (hv.below hb1) hs hk1 hk2).mono ?_; rintro e w2 ⟨v2, rfl, ho2, hb2⟩)
        | go_in)
      go_returns
      exact ⟨_, rfl, Own.mono ‹Own _ _ _ _› hb1.size, joins hb1 ‹_›⟩
    · have hin2 : inB k (-1000) 1000 = false := by simpa using hin
      have hne : ¬ (-1000 ≤ k ∧ k ≤ 1000) := by intro h; simp [inB] at hin2; omega
      clear hin
      have ho : shiftOk l k = false := by simp [shiftOk, hne]
      have hf : shiftF l k = [] := by simp [shiftF, ho]
      rw [ho, hf]
      clear ho hf
      go_enter Try.func23, Try.ntmps23
      go_wp2_with (first
        | (go_at_call 110; refine (phIs_any _ l _ hv hlen).mono ?_; rintro e w1 ⟨rfl, hb1⟩)
        | (go_at_call 122; refine (l1In_any _ _ _ _).mono ?_; rintro e w' ⟨rfl, rfl⟩)
        | go_in)
      go_returns
      exact ⟨_, rfl, World.ownsRow_nil _ _ _ _, hb1⟩
  · have hs2 : isSeq l = false := by simpa using hs
    clear hs
    have ho : shiftOk l k = false := by simp [shiftOk, hs2]
    have hf : shiftF l k = [] := by simp [shiftF, ho]
    rw [ho, hf]
    clear ho hf
    go_enter Try.func23, Try.ntmps23
    go_wp2_with (first
      | (go_at_call 110; refine (phIs_any _ l _ hv hlen).mono ?_; rintro e w1 ⟨rfl, hb1⟩)
      | (go_at_call 122; refine (l1In_any _ _ _ _).mono ?_; rintro e w' ⟨rfl, rfl⟩)
      | go_in)
    go_returns
    exact ⟨_, rfl, World.ownsRow_nil _ _ _ _, hb1⟩
end Go.Proofs.Ytfjhocmnafdnfaa
