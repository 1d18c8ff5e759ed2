/- The program's values of waves. -/
import Derived.Test.YtccjmigdebchiaaFa
namespace Go.Proofs.Ytccjmigdebchiaa
set_option maxRecDepth 100000
open Go.RowKit

set_option maxHeartbeats 1000000 in
theorem value_any (wv m : Nat) (h1 : wv ≤ 3) (h2 : m ≤ 100) (w : World) : Calls Try.prog 66 #[.int .i64 wv, .int .i64 m] w (Ret w (.complex .f32 (f32of (vx ((wv * m % 4 : Nat) : Int))) (f32of (vy ((wv * m % 4 : Nat) : Int))))) := by
  have hp : wv * m ≤ 300 := Nat.le_trans (Nat.mul_le_mul h1 h2) (by omega)
  have e : (wv : Int) * (m : Int) = ((wv * m : Nat) : Int) := by rw [Int.natCast_mul]
  obtain ⟨q, hq⟩ : ∃ q, q = wv * m := ⟨_, rfl⟩
  rw [← hq] at hp e ⊢
  have hw : wrap64 ((wv : Int) * (m : Int)) = q := by rw [e]; exact IntWalk.wrap64_in _ ⟨by omega, by omega⟩
  have HM := Lib.hid (modulo_any (q : Int) 4 (by omega) (by omega) (by omega) (by omega))
  rw [show (q : Int) % 4 = ((q % 4 : Nat) : Int) by omega] at HM
  have HV := Lib.hid (valueOf_any ((q % 4 : Nat) : Int) (by omega) (by omega))
  obtain ⟨b1, hb1⟩ : ∃ b, b = f32of (vx ((q % 4 : Nat) : Int)) := ⟨_, rfl⟩
  obtain ⟨b2, hb2⟩ : ∃ b, b = f32of (vy ((q % 4 : Nat) : Int)) := ⟨_, rfl⟩
  rw [← hb1, ← hb2] at HV ⊢
  obtain ⟨r, hr⟩ : ∃ r, r = q % 4 := ⟨_, rfl⟩
  rw [← hr] at HM HV
  clear hq e hb1 hb2 hr hp
  go_enter Try.func66, Try.ntmps66
  go_wp2_with fail
  try rw [hw]
  refine (HM.out _).mono ?_
  rintro e w1 ⟨rfl, rfl⟩
  go_wp2_with fail
  refine (HV.out _).mono ?_
  rintro e w2 ⟨rfl, hb⟩
  go_wp2_with fail
  go_returns
  exact ⟨rfl, hb⟩
end Go.Proofs.Ytccjmigdebchiaa
