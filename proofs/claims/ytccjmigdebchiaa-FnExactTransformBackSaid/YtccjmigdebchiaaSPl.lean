/- The model's places. -/
import Derived.Test.YtccjmigdebchiaaPlM
import Derived.Test.YtccjmigdebchiaaSTf
import Derived.Test.YtccjmigdebchiaaPhs
namespace Go.Proofs.Ytccjmigdebchiaa
set_option maxRecDepth 100000
open Go.RowKit

set_option maxHeartbeats 1000000 in
theorem tfPhase_any (x y : Nat) (hx : x < 16) (hy : y < 16) (w : World) : Calls Try.prog 50 #[.int .i64 x, .int .i64 y] w (Pure w (.int .i64 (wvP x y))) := by
  have HM := Lib.hid phMod_any
  obtain ⟨hp, hq⟩ := wv_part x y hx hy
  have e1 : ((x : Int) / 4) * ((y : Int) / 4) = (((x / 4) * (y / 4) : Nat) : Int) := by rw [Int.natCast_mul]; rfl
  have e2 : ((x : Int) % 4) * ((y : Int) % 4) = (((x % 4) * (y % 4) : Nat) : Int) := by rw [Int.natCast_mul]; rfl
  have HE := Lib.hid (show wvP x y = ((x / 4) * (y / 4) + (x % 4) * (y % 4)) % 4 from rfl)
  obtain ⟨p, hp'⟩ : ∃ p, p = (x / 4) * (y / 4) := ⟨_, rfl⟩
  obtain ⟨q, hq'⟩ : ∃ p, p = (x % 4) * (y % 4) := ⟨_, rfl⟩
  rw [← hp'] at hp e1 HE
  rw [← hq'] at hq e2 HE
  have w1 : wrap64 (((x : Int) / 4) * ((y : Int) / 4)) = p := by rw [e1]; exact IntWalk.wrap64_in _ ⟨by omega, by omega⟩
  have w2 : wrap64 (((x : Int) % 4) * ((y : Int) % 4)) = q := by rw [e2]; exact IntWalk.wrap64_in _ ⟨by omega, by omega⟩
  clear hp' hq'
  go_enter Try.func50, Try.ntmps50
  go_wp2_with fail
  refine (HM.out _ (by omega) (by omega) _).mono ?_
  rintro e w1 ⟨rfl, rfl⟩
  go_wp2_with fail
  go_returns
  exact ⟨ret_int (by rw [HE.out]; omega), rfl⟩
end Go.Proofs.Ytccjmigdebchiaa
