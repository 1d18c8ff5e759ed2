/- The model's crAt: a sum over the index. -/
import Derived.Test.YtcpeikkkegpdhabSPh
import Derived.Test.YtcpeikkkegpdhabCors
namespace Go.Proofs.Ytcpeikkkegpdhab
set_option maxRecDepth 100000
open Go.RowKit

/-- A sequence as a slice. -/
theorem IS.slice {w : World} {v : Value} {l : List Int} (h : IS w v l) : ∃ a cap, v = .slice a l.length cap := by
  rcases h with ⟨rfl, a, cap, rfl⟩ | ⟨_, b, off, cap, rfl, _⟩ <;> exact ⟨_, _, rfl⟩
theorem IS.cellsAt {w : World} {a : Option Addr} {cap : Nat} {l : List Int} (h : IS w (.slice a l.length cap) l) (hn : 0 < l.length) : ∃ b off, a = some ⟨b, off, none⟩ ∧ ∀ i, i < l.length → w.cell? ⟨b, off + i, none⟩ = some (.int .i64 (l.getD i 0)) := by
  rcases h with ⟨rfl, _, _, _⟩ | ⟨_, b, off, cap', hv, _, hc⟩
  · exact absurd hn (Nat.lt_irrefl _)
  · simp only [Value.slice.injEq] at hv
    obtain ⟨rfl, _, rfl⟩ := hv
    exact ⟨b, off, rfl, hc⟩

end Go.Proofs.Ytcpeikkkegpdhab
