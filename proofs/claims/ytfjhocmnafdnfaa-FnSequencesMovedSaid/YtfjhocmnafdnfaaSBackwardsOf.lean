/- The model's BackwardsOf. -/
import Derived.Test.YtfjhocmnafdnfaaSMov
namespace Go.Proofs.Ytfjhocmnafdnfaa
set_option maxRecDepth 100000
open Go.RowKit

set_option maxHeartbeats 1000000 in
theorem sback (v : Value) (l : List Int) (w : World) (hv : IS w v l) (hlen : l.length ≤ 1048576) : Calls Try.prog 37 #[v] w (MakesB w (backF l) (backOk l)) := by
  obtain ⟨a, cap, hveq⟩ : ∃ a cap, v = .slice a l.length cap := by rcases hv with ⟨rfl, a, cap, rfl⟩ | ⟨_, b, off, cap, rfl, _⟩ <;> exact ⟨_, _, rfl⟩
  subst hveq
  by_cases hs : isSeq l = true
  · skip
    have ho : backOk l = true := by simp [backOk, hs]
    have hf : backF l = backG l := by simp [backF, ho]
    rw [ho, hf]
    clear ho hf
    go_enter Try.func37, Try.ntmps37
    go_wp2_with (first
      | (go_at_call 110; refine (phIs_any _ l _ hv hlen).mono ?_; rintro e w1 ⟨rfl, hb1⟩)
      | (go_at_call 125; refine (phBack_any _ l _ (hv.below hb1) hs).mono ?_; rintro e w2 ⟨v2, rfl, ho2, hb2⟩)
      | go_in)
    go_returns
    exact ⟨_, rfl, Own.mono ‹Own _ _ _ _› hb1.size, joins hb1 ‹_›⟩
  · have hs2 : isSeq l = false := by simpa using hs
    clear hs
    have ho : backOk l = false := by simp [backOk, hs2]
    have hf : backF l = [] := by simp [backF, ho]
    rw [ho, hf]
    clear ho hf
    go_enter Try.func37, Try.ntmps37
    go_wp2_with (first
      | (go_at_call 110; refine (phIs_any _ l _ hv hlen).mono ?_; rintro e w1 ⟨rfl, hb1⟩)
      | go_in)
    go_returns
    exact ⟨_, rfl, World.ownsRow_nil _ _ _ _, hb1⟩
end Go.Proofs.Ytfjhocmnafdnfaa
