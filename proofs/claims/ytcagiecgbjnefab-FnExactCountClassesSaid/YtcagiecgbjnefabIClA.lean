/- The program's moves as values: IsMove, moveFrom, moveAt, list, rankedOf, bothRanked. -/
import Derived.Test.YtcagiecgbjnefabClM
import Derived.Test.YtcagiecgbjnefabIMo
import Derived.Test.YtcagiecgbjnefabRun
namespace Go.Proofs.Ytcagiecgbjnefab
set_option maxRecDepth 100000
open Go.RowKit

theorem slice_m2 (g off cap : Nat) (h : 4 ≤ cap) (w : World) : (Instr.sliceAt 22 (.slice (some ⟨g, off, none⟩) 4 cap) (some (.int .i64 2)) none none).run Try.prog w = .ok (.slice (some ⟨g, off + 2, none⟩) 2 (cap - 2)) w := by
  have hu : Try.prog.underlying 22 = some (.slice (Try.prog.elem 22)) := by rw [show Try.prog.elem 22 = 3 by kernel_rfl]; exact Try.underlying22
  have hsz : (sizeOf (Try.prog.elem 22)).run Try.prog w = .ok 1 w := by rw [show Try.prog.elem 22 = 3 by kernel_rfl]; simp [go_sem]
  rw [run_sliceAt_slice w _ _ _ _ _ hu, run_slice_l w _ _ _ _ hu _ _ (by omega) (by omega), hsz, Result.andThen_ok]
  unfold sliced
  have h2 : ¬ (cap = (2 : Int).toNat) := by have : (2 : Int).toNat = 2 := rfl; omega
  simp [Addr.add_lit]
  omega

/-- A list of four as it lies. -/
theorem IS.four {w : World} {v : Value} {a b c d : Int} (h : IS w v [a, b, c, d]) : ∃ g off cap, v = .slice (some ⟨g, off, none⟩) 4 cap ∧ w.cell? ⟨g, off, none⟩ = some (.int .i64 a) ∧ w.cell? ⟨g, off + 1, none⟩ = some (.int .i64 b) ∧ w.cell? ⟨g, off + 2, none⟩ = some (.int .i64 c) ∧ w.cell? ⟨g, off + 3, none⟩ = some (.int .i64 d) := by
  rcases h with ⟨h, _⟩ | ⟨_, g, off, cap, rfl, _, hc⟩
  · cases h
  · exact ⟨g, off, cap, rfl, hc 0 (by simp), hc 1 (by simp), hc 2 (by simp), hc 3 (by simp)⟩
/-- A move as a value, nought where the list is none. -/
def mvV (m : List Int) : Array Value := if clOk m then (m.map (Value.int .i64)).toArray else #[.int .i64 0, .int .i64 0, .int .i64 0, .int .i64 0]
theorem mvV_four {m : List Int} {a b c d : Int} (h : m = [a, b, c, d]) (hok : clOk m = true) : mvV m = #[.int .i64 a, .int .i64 b, .int .i64 c, .int .i64 d] := by
  unfold mvV; rw [if_pos hok, h]; rfl
theorem mvV_no {m : List Int} (hok : clOk m = false) : mvV m = #[.int .i64 0, .int .i64 0, .int .i64 0, .int .i64 0] := by
  unfold mvV; rw [hok]; rfl
/-- The move at an index as a value. -/
def mvC (x : Nat) : Array Value := #[.int .i64 ((x : Int) / 16), .int .i64 ((x : Int) / 4 % 4), .int .i64 ((x : Int) / 2 % 2), .int .i64 ((x : Int) % 2)]
end Go.Proofs.Ytcagiecgbjnefab
