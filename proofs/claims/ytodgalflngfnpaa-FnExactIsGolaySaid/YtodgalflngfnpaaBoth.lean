/- The model's phBoth. -/
import Derived.Test.YtodgalflngfnpaaSeq
namespace Go.Proofs.Ytodgalflngfnpaa
set_option maxRecDepth 100000
open Go.RowKit

/-- Both are sequences, of one length. -/
def bothB (l m : List Int) : Bool := isSeq l && isSeq m && decide (l.length = m.length)
set_option maxHeartbeats 1000000 in
theorem phBoth_any (va vb : Value) (l m : List Int) (w : World) (hva : IS w va l) (hvb : IS w vb m) (hlen : l.length ≤ 1048576) (hlem : m.length ≤ 1048576) : Calls Try.prog 84 #[va, vb] w (Ret w (.bool (bothB l m))) := by
  obtain ⟨a, cap, hveq⟩ : ∃ a cap, va = .slice a l.length cap := by rcases hva with ⟨rfl, a, cap, rfl⟩ | ⟨_, b, off, cap, rfl, _⟩ <;> exact ⟨_, _, rfl⟩
  obtain ⟨a', cap', hveq'⟩ : ∃ a cap, vb = .slice a m.length cap := by rcases hvb with ⟨rfl, a, cap, rfl⟩ | ⟨_, b, off, cap, rfl, _⟩ <;> exact ⟨_, _, rfl⟩
  subst hveq hveq'
  by_cases hs : isSeq l = true
  · by_cases ht : isSeq m = true
    · have tok1 : True := trivial
      go_enter Try.func84, Try.ntmps84
      go_wp2_with (first
        | (go_at_call 90; have _t := tok1; refine (phIs_any _ l _ hva hlen).mono ?_; rintro e w1 ⟨rfl, hb1⟩; clear tok1)
        | (go_at_call 90; refine (phIs_any _ m _ (hvb.below hb1) hlem).mono ?_; rintro e w2 ⟨rfl, hb2⟩; have hB2 := joins hb1 hb2))
      go_returns
      exact ⟨ret_bool (by by_cases e : l.length = m.length <;> simp [bothB, hs, ht, e] <;> omega), ‹Below w.heap.size w _›⟩
    · have ht2 : isSeq m = false := by simpa using ht
      clear ht
      have tok1 : True := trivial
      go_enter Try.func84, Try.ntmps84
      go_wp2_with (first
        | (go_at_call 90; have _t := tok1; refine (phIs_any _ l _ hva hlen).mono ?_; rintro e w1 ⟨rfl, hb1⟩; clear tok1)
        | (go_at_call 90; refine (phIs_any _ m _ (hvb.below hb1) hlem).mono ?_; rintro e w2 ⟨rfl, hb2⟩; have hB2 := joins hb1 hb2))
      go_returns
      exact ⟨ret_bool (by simp [bothB, ht2]), ‹Below w.heap.size w _›⟩
  · have hs2 : isSeq l = false := by simpa using hs
    clear hs
    go_enter Try.func84, Try.ntmps84
    go_wp2_with (go_at_call 90; refine (phIs_any _ l _ hva hlen).mono ?_; rintro e w1 ⟨rfl, hb1⟩)
    go_returns
    exact ⟨ret_bool (by simp [bothB, hs2]), ‹_›⟩

end Go.Proofs.Ytodgalflngfnpaa
