/- The program's places. -/
import Derived.Test.YtgibdndckoapfabPlM
import Derived.Test.YtgibdndckoapfabPhs
namespace Go.Proofs.Ytgibdndckoapfab
set_option maxRecDepth 100000
open Go.RowKit

set_option maxHeartbeats 1000000 in
theorem addedPlaces_any (x y : Nat) (hx : x < 16) (hy : y < 16) (w : World) : Calls Try.prog 49 #[.int .i64 x, .int .i64 y] w (Pure w (.int .i64 (adP x y))) := by
  go_enter Try.func49, Try.ntmps49
  go_wp2_with fail
  go_returns
  exact ⟨ret_int (by unfold adP; omega), rfl⟩
set_option maxHeartbeats 1000000 in
theorem isPlace_any (x n : Int) (w : World) : Calls Try.prog 48 #[.int .i64 x, .int .i64 n] w (Pure w (.bool (decide (0 ≤ x ∧ x < n)))) := by
  by_cases h : 0 ≤ x
  · go_enter Try.func48, Try.ntmps48
    go_wp2_with fail
    go_returns
    exact ⟨ret_bool (by simp [h]), rfl⟩
  · go_enter Try.func48, Try.ntmps48
    go_wp2_with fail
    go_returns
    exact ⟨ret_bool (by simp; intro h2; omega), rfl⟩
set_option maxHeartbeats 1000000 in
theorem wavePhase_any (x y : Nat) (hx : x < 16) (hy : y < 16) (w : World) : Calls Try.prog 54 #[.int .i64 x, .int .i64 y] w (Pure w (.int .i64 (wvP x y))) := by
  obtain ⟨hp, hq⟩ := wv_part x y hx hy
  have e1 : ((x : Int) / 4) * ((y : Int) / 4) = (((x / 4) * (y / 4) : Nat) : Int) := by rw [Int.natCast_mul]; rfl
  have e2 : ((x : Int) % 4) * ((y : Int) % 4) = (((x % 4) * (y % 4) : Nat) : Int) := by rw [Int.natCast_mul]; rfl
  have HE := Lib.hid (show wvP x y = ((x / 4) * (y / 4) + (x % 4) * (y % 4)) % 4 from rfl)
  obtain ⟨p, hp'⟩ : ∃ p, p = (x / 4) * (y / 4) := ⟨_, rfl⟩
  obtain ⟨q, hq'⟩ : ∃ p, p = (x % 4) * (y % 4) := ⟨_, rfl⟩
  rw [← hp'] at hp e1 HE
  rw [← hq'] at hq e2 HE
  have w1 : wrap64 (((x : Int) / 4) * ((y : Int) / 4)) = p := by rw [e1]; exact IntWalk.wrap64_in _ ⟨by omega, by omega⟩
  have w2 : wrap64 (((x : Int) % 4) * ((y : Int) % 4)) = q := by rw [e2]; exact IntWalk.wrap64_in _ ⟨by omega, by omega⟩
  clear hp' hq'
  go_enter Try.func54, Try.ntmps54
  go_wp2_with fail
  go_returns
  exact ⟨ret_int (by rw [HE.out]; omega), rfl⟩
end Go.Proofs.Ytgibdndckoapfab
