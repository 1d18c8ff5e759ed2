/- The model's ClimbBy. -/
import Derived.Test.YtfjhocmnafdnfaaSMov
namespace Go.Proofs.Ytfjhocmnafdnfaa
set_option maxRecDepth 100000
open Go.RowKit

set_option maxHeartbeats 1000000 in
theorem sclimb (v : Value) (l : List Int) (k : Int) (w : World) (hv : IS w v l) (hlen : l.length ≤ 1048576) : Calls Try.prog 33 #[v, .int .i64 k] w (MakesB w (climbF l k) (climbOk l k)) := by
  obtain ⟨a, cap, hveq⟩ : ∃ a cap, v = .slice a l.length cap := by rcases hv with ⟨rfl, a, cap, rfl⟩ | ⟨_, b, off, cap, rfl, _⟩ <;> exact ⟨_, _, rfl⟩
  subst hveq
  by_cases hs : isSeq l = true
  · by_cases hin : inB k (0) 3 = true
    · have hk1 : 0 ≤ k := by simp [inB] at hin; omega
      have hk2 : k ≤ 3 := by simp [inB] at hin; omega
      have ho : climbOk l k = true := by simp [climbOk, hs, hk1, hk2]
      have hf : climbF l k = climbG l k := by simp [climbF, ho]
      rw [ho, hf]
      clear ho hf
      go_enter Try.func33, Try.ntmps33
      go_wp2_with (first
        | (go_at_call 110; refine (phIs_any _ l _ hv hlen).mono ?_; rintro e w1 ⟨rfl, hb1⟩)
        | (go_at_call 122; refine (l1In_any _ _ _ _).mono ?_; rintro e w' ⟨rfl, rfl⟩)
        | (go_at_call 123; refine (phClimb_any _ l k _ (hv.below hb1) hs hk1 hk2).mono ?_; rintro e w2 ⟨v2, rfl, ho2, hb2⟩)
        | go_in)
      go_returns
      exact ⟨_, rfl, Own.mono ‹Own _ _ _ _› hb1.size, joins hb1 ‹_›⟩
    · have hin2 : inB k (0) 3 = false := by simpa using hin
      have hne : ¬ (0 ≤ k ∧ k ≤ 3) := by intro h; simp [inB] at hin2; omega
      clear hin
      have ho : climbOk l k = false := by simp [climbOk, hne]
      have hf : climbF l k = [] := by simp [climbF, ho]
      rw [ho, hf]
      clear ho hf
      go_enter Try.func33, Try.ntmps33
      go_wp2_with (first
        | (go_at_call 110; refine (phIs_any _ l _ hv hlen).mono ?_; rintro e w1 ⟨rfl, hb1⟩)
        | (go_at_call 122; refine (l1In_any _ _ _ _).mono ?_; rintro e w' ⟨rfl, rfl⟩)
        | go_in)
      go_returns
      exact ⟨_, rfl, World.ownsRow_nil _ _ _ _, hb1⟩
  · have hs2 : isSeq l = false := by simpa using hs
    clear hs
    have ho : climbOk l k = false := by simp [climbOk, hs2]
    have hf : climbF l k = [] := by simp [climbF, ho]
    rw [ho, hf]
    clear ho hf
    go_enter Try.func33, Try.ntmps33
    go_wp2_with (first
      | (go_at_call 110; refine (phIs_any _ l _ hv hlen).mono ?_; rintro e w1 ⟨rfl, hb1⟩)
      | (go_at_call 122; refine (l1In_any _ _ _ _).mono ?_; rintro e w' ⟨rfl, rfl⟩)
      | go_in)
    go_returns
    exact ⟨_, rfl, World.ownsRow_nil _ _ _ _, hb1⟩
end Go.Proofs.Ytfjhocmnafdnfaa
