/- The model's EnergyOf. -/
import Derived.Test.YtgibdndckoapfaaSTf
import Derived.Test.YtgibdndckoapfaaEgM
namespace Go.Proofs.Ytgibdndckoapfaa
set_option maxRecDepth 100000
open Go.RowKit

set_option maxHeartbeats 1000000 in
theorem phNorm_any (x y : Int) (h : good x y = true) (w : World) : Calls Try.prog 82 #[.agg #[.int .i64 x, .int .i64 y]] w (Ret w (.int .i64 (norm x y))) := by
  have hg := good_in h
  have h1 := sq_le x hg.1
  have h2 := sq_le y hg.2
  have hN : norm x y = x * x + y * y := rfl
  obtain ⟨p, hp⟩ : ∃ p, p = x * x := ⟨_, rfl⟩
  obtain ⟨q, hq⟩ : ∃ p, p = y * y := ⟨_, rfl⟩
  rw [hN, ← hp, ← hq]
  rw [← hp] at h1
  rw [← hq] at h2
  have w1 : wrap64 (x * x) = p := by rw [← hp]; exact IntWalk.wrap64_in p ⟨by omega, by omega⟩
  have w2 : wrap64 (y * y) = q := by rw [← hq]; exact IntWalk.wrap64_in q ⟨by omega, by omega⟩
  have w3 : wrap64 (p + q) = p + q := IntWalk.wrap64_in _ ⟨by omega, by omega⟩
  clear hg h1 h2 hN hp hq h
  go_enter Try.func82, Try.ntmps82
  go_wp2
  go_returns
  exact ⟨ret_int w3, by go_grown⟩

end Go.Proofs.Ytgibdndckoapfaa
