/- The model's phTimes of a value and a small number. -/
import Derived.Test.YtccjmigdebchiaaDeG
import Derived.Test.YtccjmigdebchiaaSPh
namespace Go.Proofs.Ytccjmigdebchiaa
set_option maxRecDepth 100000
open Go.RowKit

set_option maxHeartbeats 1000000 in
theorem phTimes_any (p : Int) (hp : 0 ≤ p ∧ p ≤ 3) (X Y : Int) (h1 : -1000 ≤ X ∧ X ≤ 1000) (h2 : -1000 ≤ Y ∧ Y ≤ 1000) (w : World) :
    Calls Try.prog 41 #[.agg #[.int .i64 (vx p), .int .i64 (vy p)], .agg #[.int .i64 X, .int .i64 Y]] w (Ret w (.agg #[.int .i64 (vx p * X - vy p * Y), .int .i64 (vx p * Y + vy p * X)])) := by
  obtain ⟨h11, h12⟩ := h1
  obtain ⟨h21, h22⟩ := h2
  have hx := vx_one p
  have hy := vy_one p
  obtain ⟨A, hA⟩ : ∃ A, A = vx p * X := ⟨_, rfl⟩
  obtain ⟨C, hC⟩ : ∃ A, A = vy p * Y := ⟨_, rfl⟩
  obtain ⟨E, hE⟩ : ∃ A, A = vx p * Y := ⟨_, rfl⟩
  obtain ⟨F, hF⟩ : ∃ A, A = vy p * X := ⟨_, rfl⟩
  have hb : (-1000 ≤ A ∧ A ≤ 1000) ∧ (-1000 ≤ C ∧ C ≤ 1000) ∧ (-1000 ≤ E ∧ E ≤ 1000) ∧ (-1000 ≤ F ∧ F ≤ 1000) := by
    rw [hA, hC, hE, hF]
    rcases (show p = 0 ∨ p = 1 ∨ p = 2 ∨ p = 3 by omega) with rfl | rfl | rfl | rfl
    · rw [show vx 0 = 1 from rfl, show vy 0 = 0 from rfl]; omega
    · rw [show vx 1 = 0 from rfl, show vy 1 = 1 from rfl]; omega
    · rw [show vx 2 = -1 from rfl, show vy 2 = 0 from rfl]; omega
    · rw [show vx 3 = 0 from rfl, show vy 3 = -1 from rfl]; omega
  obtain ⟨⟨a1, a2⟩, ⟨c1, c2⟩, ⟨e1, e2⟩, ⟨f1, f2⟩⟩ := hb
  have wA : wrap64 (vx p * X) = A := by rw [← hA]; exact IntWalk.wrap64_in A ⟨by omega, by omega⟩
  have wC : wrap64 (vy p * Y) = C := by rw [← hC]; exact IntWalk.wrap64_in C ⟨by omega, by omega⟩
  have wE : wrap64 (vx p * Y) = E := by rw [← hE]; exact IntWalk.wrap64_in E ⟨by omega, by omega⟩
  have wF : wrap64 (vy p * X) = F := by rw [← hF]; exact IntWalk.wrap64_in F ⟨by omega, by omega⟩
  have wS : wrap64 (A - C) = A - C := IntWalk.wrap64_in _ ⟨by omega, by omega⟩
  have wT : wrap64 (E + F) = E + F := IntWalk.wrap64_in _ ⟨by omega, by omega⟩
  rw [← hA, ← hC, ← hE, ← hF]
  obtain ⟨x, hx'⟩ : ∃ x, x = vx p := ⟨_, rfl⟩
  obtain ⟨y, hy'⟩ : ∃ x, x = vy p := ⟨_, rfl⟩
  rw [← hx'] at wA wE ⊢
  rw [← hy'] at wC wF ⊢
  clear hA hC hE hF hx hy hx' hy' hp
  go_enter Try.func41, Try.ntmps41
  go_wp2
  go_returns
  exact ⟨rfl, by go_grown⟩
end Go.Proofs.Ytccjmigdebchiaa
