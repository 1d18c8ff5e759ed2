/- The model's crAt: a sum over the index. -/
import Derived.Test.YtoehehaeanepmabSPh
import Derived.Test.YtoehehaeanepmabCors
namespace Go.Proofs.Ytoehehaeanepmab
set_option maxRecDepth 100000
open Go.RowKit

set_option maxHeartbeats 1000000 in
theorem phValueM_any (k : Int) (h1 : -1000000 ≤ k) (h2 : k ≤ 1000000) (w : World) : Calls Try.prog 73 #[.int .i64 k] w (Ret w (.agg #[.int .i64 (vx (k % 4)), .int .i64 (vy (k % 4))])) := by
  have HM := Lib.hid (phMod_any k (by omega) (by omega))
  have hr : k % 4 = 0 ∨ k % 4 = 1 ∨ k % 4 = 2 ∨ k % 4 = 3 := by omega
  obtain ⟨r, hrd⟩ : ∃ r, r = k % 4 := ⟨_, rfl⟩
  rw [← hrd] at HM hr ⊢
  clear hrd h1 h2
  rcases hr with rfl | rfl | rfl | rfl
  all_goals
    go_enter Try.func73, Try.ntmps73
    go_wp2_with (go_at_call 55; refine (HM.out _).mono ?_; rintro e w' ⟨rfl, rfl⟩)
    go_returns
    exact ⟨rfl, by go_grown⟩

/-- A sequence as a slice. -/
theorem IS.slice {w : World} {v : Value} {l : List Int} (h : IS w v l) : ∃ a cap, v = .slice a l.length cap := by
  rcases h with ⟨rfl, a, cap, rfl⟩ | ⟨_, b, off, cap, rfl, _⟩ <;> exact ⟨_, _, rfl⟩
theorem IS.cellsAt {w : World} {a : Option Addr} {cap : Nat} {l : List Int} (h : IS w (.slice a l.length cap) l) (hn : 0 < l.length) : ∃ b off, a = some ⟨b, off, none⟩ ∧ ∀ i, i < l.length → w.cell? ⟨b, off + i, none⟩ = some (.int .i64 (l.getD i 0)) := by
  rcases h with ⟨rfl, _, _, _⟩ | ⟨_, b, off, cap', hv, _, hc⟩
  · exact absurd hn (Nat.lt_irrefl _)
  · simp only [Value.slice.injEq] at hv
    obtain ⟨rfl, _, rfl⟩ := hv
    exact ⟨b, off, rfl, hc⟩

end Go.Proofs.Ytoehehaeanepmab
