/- AlternateOf: the model's and the program's. -/
import Derived.Test.YtfjhocmnafdnfaaSMov
import Derived.Test.YtfjhocmnafdnfaaIClimbBy
namespace Go.Proofs.Ytfjhocmnafdnfaa
set_option maxRecDepth 100000
open Go.RowKit

theorem alt_ok (l : List Int) : climbOk l 2 = isSeq l := by simp [climbOk]
set_option maxHeartbeats 1000000 in
theorem ialt (v : Value) (l : List Int) (w : World) (hv : IS w v l) (hlen : l.length ≤ 1048576) : Calls Try.prog 34 #[v] w (MakesB w (climbF l 2) (climbOk l 2)) := by
  obtain ⟨a, cap, hveq⟩ : ∃ a cap, v = .slice a l.length cap := by rcases hv with ⟨rfl, a, cap, rfl⟩ | ⟨_, b, off, cap, rfl, _⟩ <;> exact ⟨_, _, rfl⟩
  subst hveq
  go_enter Try.func34, Try.ntmps34
  go_wp2_with (go_at_call 32; refine (iclimb _ l 2 _ hv hlen).mono ?_; rintro e w1 ⟨v1, rfl, ho1, hb1⟩)
  go_returns
  exact ⟨_, rfl, ‹_›, ‹_›⟩
set_option maxHeartbeats 1000000 in
theorem salt (v : Value) (l : List Int) (w : World) (hv : IS w v l) (hlen : l.length ≤ 1048576) : Calls Try.prog 35 #[v] w (MakesB w (climbF l 2) (climbOk l 2)) := by
  obtain ⟨a, cap, hveq⟩ : ∃ a cap, v = .slice a l.length cap := by rcases hv with ⟨rfl, a, cap, rfl⟩ | ⟨_, b, off, cap, rfl, _⟩ <;> exact ⟨_, _, rfl⟩
  subst hveq
  have he := alt_ok l
  by_cases hs : isSeq l = true
  · have ho : climbOk l 2 = true := by rw [he]; exact hs
    have hf : climbF l 2 = climbG l 2 := by simp [climbF, ho]
    rw [ho, hf]
    clear ho hf he
    go_enter Try.func35, Try.ntmps35
    go_wp2_with (first
      | (go_at_call 110; refine (phIs_any _ l _ hv hlen).mono ?_; rintro e w1 ⟨rfl, hb1⟩)
      | (go_at_call 123; refine (phClimb_any _ l 2 _ (hv.below hb1) hs (by omega) (by omega)).mono ?_; rintro e w2 ⟨v2, rfl, ho2, hb2⟩))
    go_returns
    exact ⟨_, rfl, Own.mono ‹Own _ _ _ _› hb1.size, joins hb1 ‹_›⟩
  · have hs2 : isSeq l = false := by simpa using hs
    have ho : climbOk l 2 = false := by rw [he]; exact hs2
    have hf : climbF l 2 = [] := by simp [climbF, ho]
    rw [ho, hf]
    clear ho hf he hs
    go_enter Try.func35, Try.ntmps35
    go_wp2_with (go_at_call 110; refine (phIs_any _ l _ hv hlen).mono ?_; rintro e w1 ⟨rfl, hb1⟩)
    go_returns
    exact ⟨_, rfl, World.ownsRow_nil _ _ _ _, ‹_›⟩
end Go.Proofs.Ytfjhocmnafdnfaa
